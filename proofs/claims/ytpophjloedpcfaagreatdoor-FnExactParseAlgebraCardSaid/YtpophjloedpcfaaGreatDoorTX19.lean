import Derived.Test.YtpophjloedpcfaaGreatDoorTX18
import Derived.Test.YtpophjloedpcfaaGreatDoorD3
import Derived.Test.YtpophjloedpcfaaGreatDoorL6
namespace Go.Proofs.YtpophjloedpcfaaGreatDoor
open Go.RowKit
theorem tiP (s : ByteArray) : Ti (pL s) (pT s) := by
  cases h : pO s with
  | none => obtain ⟨e1, e2, _⟩ := pP_no h; rw [e1, e2]; exact Ti.zero
  | some p =>
    obtain ⟨e1, e2, _⟩ := pP_yes (L := p.1) (T := p.2) h
    rw [e1, e2]
    have ha := (pO_some h).1
    have t6 := tab_len6 ha
    exact ⟨t6.2.1, t6.1, fun j hj => row_len6 ha hj⟩
set_option maxRecDepth 100000 in
set_option maxHeartbeats 8000000 in
/-- the law -/
theorem lawParseAlgebra (a0 : ByteArray) (w : World) (hG : GV w) (hw0 : a0.size ≤ maxLen) :
    Calls Tryz.prog 6 #[.string a0] w fun e w' => e = .returned (.bool true) ∧ Below w.heap.size w w' := by
  unfold maxLen at *
  obtain ⟨w1, hw1⟩ : ∃ w1, w1 = w := ⟨_, rfl⟩
  have hB : Below w.heap.size w w1 := by rw [hw1]; exact (Below.refl _ _)
  subst hw1
  have z0 : Below w1.heap.size w1 w1 := Below.refl _ _
  by_cases hb0 : 1048576 < a0.size
  · have hc0 : (1048576 : Int) < (a0.size : Int) := by omega
    go_enter Tryz.func6, Tryz.ntmps6
    go_wp2
    go_ret
    exact ⟨rfl, Below.refl _ _⟩
  have hs0 : a0.size ≤ 1048576 := by omega
  have hss0 : (a0.size : Int) ≤ 1048576 := by omega
  clear hb0
  have TI0 := Lib.hid (tiP a0 : Ti (pL a0) (pT a0))
  obtain ⟨VL0, hVL0⟩ : ∃ V, V = pL a0 := ⟨_, rfl⟩
  obtain ⟨VT0, hVT0⟩ : ∃ V, V = pT a0 := ⟨_, rfl⟩
  rw [← hVL0, ← hVT0] at TI0
  obtain ⟨V1, hV1⟩ : ∃ V, V = pB a0 := ⟨_, rfl⟩
  have hne1 : (V1 != V1) = false := by simp
  have HS := Lib.hid (show ∀ (w : World), Calls Tryz.prog 15 #[.string a0] w (RetSAb VL0 VT0 V1 w) from fun w => by rw [hVL0, hVT0, hV1]; exact specParseAlgebra_any a0 w hs0)
  have HI := Lib.hid (show ∀ (w : World), Below w1.heap.size w1 w → Calls Tryz.prog 12 #[.string a0] w (RetGAbW VL0 VT0 V1 w) from fun w hz => by rw [hVL0, hVT0, hV1]; exact implParseAlgebra_any a0 w (hG.below hz) hs0)
  clear hVL0 hVT0 hV1 hG
  go_enter Tryz.func6, Tryz.ntmps6
  go_wp2_with fail
  refine (HS.out  _ ).mono ?_
  rintro e wS ⟨S0a, S0n, S0c, S0b, S0m, S0d, rfl, S0g, hbS⟩
  have z21 := z0.trans (hbS.mono z0.size)
  have n22 := hbS.size
  clear hbS
  go_wp2_with (first | go_skip | (refine wpList_store_row rfl 26 _ _ rfl wS.heap.size #[.slice S0a S0n S0c, .slice S0b S0m S0d] rfl rfl _ _ (heap_alloc_new wS (.cells #[.slice none 0 0, .slice none 0 0] 26)) (size_Alg _ _) rfl (one_sl2 _ _ _ _ _ _) ?_; rw [World.setRow_alloc_new]; obtain ⟨gS0, hgS0⟩ : ∃ g, g = wS.heap.size := ⟨_, rfl⟩; obtain ⟨wSb, hwSb⟩ : ∃ x, x = wS.alloc (.cells #[.slice S0a S0n S0c, .slice S0b S0m S0d] 26) := ⟨_, rfl⟩; rw [← hwSb, ← hgS0]; have hbwSb : Below wS.heap.size wS wSb := (by rw [hwSb]; exact (Below.refl _ _).alloc (Nat.le_refl _) _); have hxgS0 : wSb.heap[gS0]? = some (.cells #[.slice S0a S0n S0c, .slice S0b S0m S0d] 26 (0, 0)) := (by rw [hwSb, hgS0]; exact heap_alloc_new wS _); have ngS0 : wS.heap.size ≤ gS0 := Nat.le_of_eq hgS0.symm; have mgS0 : gS0 < wSb.heap.size := lt_of_block hxgS0; have KS := Lib.hid (show ∀ wz, Below wSb.heap.size wSb wz → wz.heap[gS0]? = some (.cells #[.slice S0a S0n S0c, .slice S0b S0m S0d] 26 (0, 0)) from fun wz h => (h.block _ (lt_of_block hxgS0)).trans hxgS0); clear hwSb hgS0 hxgS0; have z23 := z21.trans (hbwSb.mono z21.size); have Sz0 : Below wSb.heap.size wSb wSb := Below.refl _ _) | (refine wpList_load_row_w rfl 26 _ rfl gS0 rfl _ _ _ _ (KS.out _ (by assumption)) Tryz.underlying26 rfl (size_Alg _ _) ?_))
  have HS0 := Lib.hid (S0g.ra.below hbwSb)
  clear S0g
  clear hbwSb
  have nlg : w1.heap.size ≤ wSb.heap.size := z23.size
  refine (HI.out _ z23).mono ?_
  rintro e wI ⟨G0a, G0n, G0c, G0b, G0m, G0d, rfl, G0g, hbG⟩
  have z24 := z23.trans (hbG.mono z23.size)
  have Sz24 := Sz0.trans (hbG.mono Sz0.size)
  have n25 := hbG.size
  clear hbG
  go_wp2_with (first | go_skip | (refine wpList_store_row rfl 26 _ _ rfl wI.heap.size #[.slice G0a G0n G0c, .slice G0b G0m G0d] rfl rfl _ _ (heap_alloc_new wI (.cells #[.slice none 0 0, .slice none 0 0] 26)) (size_Alg _ _) rfl (one_sl2 _ _ _ _ _ _) ?_; rw [World.setRow_alloc_new]; obtain ⟨gG0, hgG0⟩ : ∃ g, g = wI.heap.size := ⟨_, rfl⟩; obtain ⟨wJ, hwJ⟩ : ∃ x, x = wI.alloc (.cells #[.slice G0a G0n G0c, .slice G0b G0m G0d] 26) := ⟨_, rfl⟩; rw [← hwJ, ← hgG0]; have hbwJ : Below wI.heap.size wI wJ := (by rw [hwJ]; exact (Below.refl _ _).alloc (Nat.le_refl _) _); have hxgG0 : wJ.heap[gG0]? = some (.cells #[.slice G0a G0n G0c, .slice G0b G0m G0d] 26 (0, 0)) := (by rw [hwJ, hgG0]; exact heap_alloc_new wI _); have ngG0 : wI.heap.size ≤ gG0 := Nat.le_of_eq hgG0.symm; have mgG0 : gG0 < wJ.heap.size := lt_of_block hxgG0; have KG := Lib.hid (show ∀ wz, Below wJ.heap.size wJ wz → wz.heap[gG0]? = some (.cells #[.slice G0a G0n G0c, .slice G0b G0m G0d] 26 (0, 0)) from fun wz h => (h.block _ (lt_of_block hxgG0)).trans hxgG0); clear hwJ hgG0 hxgG0; have z26 := z24.trans (hbwJ.mono z24.size); have Sz26 := Sz24.trans (hbwJ.mono Sz24.size); have Gz0 : Below wJ.heap.size wJ wJ := Below.refl _ _) | (refine wpList_load_row_w rfl 26 _ rfl gS0 rfl _ _ _ _ (KS.out _ (by assumption)) Tryz.underlying26 rfl (size_Alg _ _) ?_) | (refine wpList_load_row_w rfl 26 _ rfl gG0 rfl _ _ _ _ (KG.out _ (by assumption)) Tryz.underlying26 rfl (size_Alg _ _) ?_))
  have HG0 := Lib.hid (G0g.below hbwJ)
  clear G0g
  clear hbwJ
  refine (eqAlgebra_R _ _ _ _ VL0 VT0 _ (HG0.out.below Gz0).rd (HS0.out.below Sz26) TI0.out.sm).mono ?_
  rintro e c0w ⟨rfl, hbc0⟩
  have z27 := z26.trans (hbc0.mono z26.size)
  have Sz27 := Sz26.trans (hbc0.mono Sz26.size)
  have Gz27 := Gz0.trans (hbc0.mono Gz0.size)
  have n28 := hbc0.size
  clear z26 Sz26 Gz0 hbc0
  go_wp2_with (first | go_skip | (refine wpList_load_row_w rfl 26 _ rfl gS0 rfl _ _ _ _ (KS.out _ (by assumption)) Tryz.underlying26 rfl (size_Alg _ _) ?_) | (refine wpList_load_row_w rfl 26 _ rfl gG0 rfl _ _ _ _ (KG.out _ (by assumption)) Tryz.underlying26 rfl (size_Alg _ _) ?_))
  obtain ⟨vl0, vu0⟩ := wtA_le TI0.out.sm
  have nhg := Gz27.size
  refine (markAlgebra_GW wSb.heap.size wI.heap.size _ _ _ _ _ _ VL0 VT0 (1) _ (HG0.out.below Gz27) (by omega) TI0.out.sm (by omega) (by omega)).mono ?_
  rintro e l0w ⟨rfl, MG0, ml0⟩
  have z29 := z27.trans (ml0.below (by omega) (by have := z27.size; omega))
  have Sz29 := Sz27.trans (ml0.below (by omega) (by have := Sz27.size; omega))
  have hxq := (ml0.block gG0 (lt_of_block (KG.out _ Gz27)) (.inr (by omega))).trans (KG.out _ Gz27)
  replace KG := Lib.hid (show ∀ wz, Below l0w.heap.size l0w wz → wz.heap[gG0]? = some (.cells #[.slice G0a G0n G0c, .slice G0b G0m G0d] 26 (0, 0)) from fun wz h => (h.block _ (lt_of_block hxq)).trans hxq)
  clear hxq
  replace MG0 := Lib.hid MG0
  have Gz29 : Below l0w.heap.size l0w l0w := Below.refl _ _
  clear z27 Sz27 Gz27 ml0
  have hq0 : ¬ 1 + wtA VL0 VT0 < 0 := by omega
  have hqb0 : decide (1 + wtA VL0 VT0 < 0) = false := decide_eq_false hq0
  have hqq : (1 + wtA VL0 VT0 != 1 + wtA VL0 VT0) = false := by simp
  go_wp2_with (first | go_skip | (refine wpList_load_row_w rfl 26 _ rfl gS0 rfl _ _ _ _ (KS.out _ (by assumption)) Tryz.underlying26 rfl (size_Alg _ _) ?_) | (refine wpList_load_row_w rfl 26 _ rfl gG0 rfl _ _ _ _ (KG.out _ (by assumption)) Tryz.underlying26 rfl (size_Alg _ _) ?_))
  refine (heldAlgebra_GW _ _ _ _ _ _ VL0 VT0 (1) _ (MG0.out.below Gz29) TI0.out (by omega) (by omega)).mono ?_
  rintro e p0w ⟨rfl, hbp0⟩
  have z30 := z29.trans (hbp0.mono z29.size)
  have Sz30 := Sz29.trans (hbp0.mono Sz29.size)
  have Gz30 := Gz29.trans (hbp0.mono Gz29.size)
  have n31 := hbp0.size
  clear z29 Sz29 Gz29 hbp0
  go_wp2_with (first | go_skip | (refine wpList_load_row_w rfl 26 _ rfl gS0 rfl _ _ _ _ (KS.out _ (by assumption)) Tryz.underlying26 rfl (size_Alg _ _) ?_) | (refine wpList_load_row_w rfl 26 _ rfl gG0 rfl _ _ _ _ (KG.out _ (by assumption)) Tryz.underlying26 rfl (size_Alg _ _) ?_))
  refine (HI.out _ z30).mono ?_
  rintro e wH ⟨H0a, H0n, H0c, H0b, H0m, H0d, rfl, H0g, hbH⟩
  have z32 := z30.trans (hbH.mono z30.size)
  have Sz32 := Sz30.trans (hbH.mono Sz30.size)
  have Gz32 := Gz30.trans (hbH.mono Gz30.size)
  have n33 := hbH.size
  clear hbH
  go_wp2_with (first | go_skip | (refine wpList_store_row rfl 26 _ _ rfl wH.heap.size #[.slice H0a H0n H0c, .slice H0b H0m H0d] rfl rfl _ _ (heap_alloc_new wH (.cells #[.slice none 0 0, .slice none 0 0] 26)) (size_Alg _ _) rfl (one_sl2 _ _ _ _ _ _) ?_; rw [World.setRow_alloc_new]; obtain ⟨gH0, hgH0⟩ : ∃ g, g = wH.heap.size := ⟨_, rfl⟩; obtain ⟨wHb, hwHb⟩ : ∃ x, x = wH.alloc (.cells #[.slice H0a H0n H0c, .slice H0b H0m H0d] 26) := ⟨_, rfl⟩; rw [← hwHb, ← hgH0]; have hbwHb : Below wH.heap.size wH wHb := (by rw [hwHb]; exact (Below.refl _ _).alloc (Nat.le_refl _) _); have hxgH0 : wHb.heap[gH0]? = some (.cells #[.slice H0a H0n H0c, .slice H0b H0m H0d] 26 (0, 0)) := (by rw [hwHb, hgH0]; exact heap_alloc_new wH _); have ngH0 : wH.heap.size ≤ gH0 := Nat.le_of_eq hgH0.symm; have mgH0 : gH0 < wHb.heap.size := lt_of_block hxgH0; have KH := Lib.hid (show ∀ wz, Below wHb.heap.size wHb wz → wz.heap[gH0]? = some (.cells #[.slice H0a H0n H0c, .slice H0b H0m H0d] 26 (0, 0)) from fun wz h => (h.block _ (lt_of_block hxgH0)).trans hxgH0); clear hwHb hgH0 hxgH0; have z34 := z32.trans (hbwHb.mono z32.size); have Sz34 := Sz32.trans (hbwHb.mono Sz32.size); have Gz34 := Gz32.trans (hbwHb.mono Gz32.size); have Hz0 : Below wHb.heap.size wHb wHb := Below.refl _ _) | (refine wpList_load_row_w rfl 26 _ rfl gS0 rfl _ _ _ _ (KS.out _ (by assumption)) Tryz.underlying26 rfl (size_Alg _ _) ?_) | (refine wpList_load_row_w rfl 26 _ rfl gG0 rfl _ _ _ _ (KG.out _ (by assumption)) Tryz.underlying26 rfl (size_Alg _ _) ?_) | (refine wpList_load_row_w rfl 26 _ rfl gH0 rfl _ _ _ _ (KH.out _ (by assumption)) Tryz.underlying26 rfl (size_Alg _ _) ?_))
  have HH0 := Lib.hid (H0g.below hbwHb)
  clear H0g
  clear hbwHb
  refine (eqAlgebra_R _ _ _ _ VL0 VT0 _ (HH0.out.below Hz0).rd (HS0.out.below Sz34) TI0.out.sm).mono ?_
  rintro e r0w ⟨rfl, hbr0⟩
  have z35 := z34.trans (hbr0.mono z34.size)
  have Sz35 := Sz34.trans (hbr0.mono Sz34.size)
  have Gz35 := Gz34.trans (hbr0.mono Gz34.size)
  have Hz35 := Hz0.trans (hbr0.mono Hz0.size)
  have n36 := hbr0.size
  clear z34 Sz34 Gz34 Hz0 hbr0
  go_wp2_with (first | go_skip | (refine wpList_load_row_w rfl 26 _ rfl gS0 rfl _ _ _ _ (KS.out _ (by assumption)) Tryz.underlying26 rfl (size_Alg _ _) ?_) | (refine wpList_load_row_w rfl 26 _ rfl gG0 rfl _ _ _ _ (KG.out _ (by assumption)) Tryz.underlying26 rfl (size_Alg _ _) ?_) | (refine wpList_load_row_w rfl 26 _ rfl gH0 rfl _ _ _ _ (KH.out _ (by assumption)) Tryz.underlying26 rfl (size_Alg _ _) ?_))
  go_wp2_with (first | go_skip | (refine wpList_load_row_w rfl 26 _ rfl gS0 rfl _ _ _ _ (KS.out _ (by assumption)) Tryz.underlying26 rfl (size_Alg _ _) ?_) | (refine wpList_load_row_w rfl 26 _ rfl gG0 rfl _ _ _ _ (KG.out _ (by assumption)) Tryz.underlying26 rfl (size_Alg _ _) ?_))
  refine (heldAlgebra_GW _ _ _ _ _ _ VL0 VT0 (1) _ (MG0.out.below Gz35) TI0.out (by omega) (by omega)).mono ?_
  rintro e u0w ⟨rfl, hbu0⟩
  have z37 := z35.trans (hbu0.mono z35.size)
  have Sz37 := Sz35.trans (hbu0.mono Sz35.size)
  have Gz37 := Gz35.trans (hbu0.mono Gz35.size)
  have Hz37 := Hz35.trans (hbu0.mono Hz35.size)
  have n38 := hbu0.size
  clear z35 Sz35 Gz35 Hz35 hbu0
  go_wp2
  go_ret
  exact ⟨rfl, hB.trans (z37.mono hB.size)⟩
end Go.Proofs.YtpophjloedpcfaaGreatDoor
