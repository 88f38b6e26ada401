import Derived.Test.YtnmhbbekmepinaaSS2
import Derived.Test.YtnmhbbekmepinaaL6
namespace Go.Proofs.Ytnmhbbekmepinaa
open Go.RowKit
/-- a list that can be read, of a capacity -/
def RSc (w : World) (s : Value) (L : List Int) : Prop := ∃ a c, s = .slice a L.length c ∧ Rd w a L ∧ L.length ≤ c
theorem GS.rdc {lo hi : Nat} {w : World} {s : Value} {L : List Int} (h : GS lo hi w s L) : RSc w s L := by
  obtain ⟨⟨a, c, rfl⟩, h1, _⟩ := h
  refine ⟨a, c, rfl, h1.rd, ?_⟩
  rcases h1.2 with ⟨e, hn⟩ | ⟨g, cap, cur, e, _, hg, hc, _⟩
  · omega
  · injection e with _ _ e
    rw [e]; exact hc
set_option maxRecDepth 100000 in
set_option maxHeartbeats 8000000 in
/-- the law -/
theorem lawStackOfSums (a0 : Option Addr) (ca0 : Nat) (L0 : List Int) (w : World) (hr0 : Rd w a0 L0) (hL0 : L0.length ≤ maxLen) :
    Calls Try.prog 7 #[.slice a0 L0.length ca0] w fun e w' => e = .returned (.bool true) ∧ Below w.heap.size w w' := by
  unfold maxLen at *
  obtain ⟨w1, hw1⟩ : ∃ w1, w1 = w := ⟨_, rfl⟩
  have hB : Below w.heap.size w w1 := by rw [hw1]; exact (Below.refl _ _)
  have HR0 := Lib.hid (hr0.below hB)
  subst hw1
  have z0 : Below w1.heap.size w1 w1 := Below.refl _ _
  by_cases hb0 : 1048576 < L0.length
  · have hc0 : (1048576 : Int) < (L0.length : Int) := by omega
    go_enter Try.func7, Try.ntmps7
    go_wp2
    go_ret
    exact ⟨rfl, Below.refl _ _⟩
  have hs0 : L0.length ≤ 1048576 := by omega
  have hss0 : (L0.length : Int) ≤ 1048576 := by omega
  clear hb0
  have TI0 := Lib.hid (sk_ti L0 : Ti (skL L0) (skT L0))
  obtain ⟨VL0, hVL0⟩ : ∃ V, V = skL L0 := ⟨_, rfl⟩
  obtain ⟨VT0, hVT0⟩ : ∃ V, V = skT L0 := ⟨_, rfl⟩
  rw [← hVL0, ← hVT0] at TI0
  obtain ⟨V1, hV1⟩ : ∃ V, V = szB 5 L0 := ⟨_, rfl⟩
  have hne1 : (V1 != V1) = false := by simp
  have HS := Lib.hid (show ∀ (a0 : Option Addr) (n0 c0 : Nat) (w : World), RS w (.slice a0 n0 c0) L0 → Calls Try.prog 39 #[.slice a0 n0 c0] w (RetSAb VL0 VT0 V1 w) from fun a0 n0 c0 w h0 => by obtain ⟨xa0, xc0, e0, r0⟩ := h0; rw [e0, hVL0, hVT0, hV1]; exact specStackOfSums_any xa0 xc0 L0 w r0 hs0)
  have HI := Lib.hid (show ∀ (a0 : Option Addr) (n0 c0 : Nat) (w : World), RSc w (.slice a0 n0 c0) L0 → Calls Try.prog 41 #[.slice a0 n0 c0] w (RetGAb VL0 VT0 V1 w) from fun a0 n0 c0 w h0 => by obtain ⟨xa0, xc0, e0, r0, k0⟩ := h0; rw [e0, hVL0, hVT0, hV1]; exact implStackOfSums_any xa0 xc0 L0 w r0 hs0 k0)
  clear hVL0 hVT0 hV1 hr0
  go_enter Try.func7, Try.ntmps7
  go_wp2_with fail
  refine (toIntS_G _ _ L0 _ (HR0.out.below z0) hs0).mono ?_
  rintro e m0w ⟨m0a, m0n, m0c, rfl, gm0, hbm0⟩
  have z21 := z0.trans (hbm0.mono z0.size)
  have n22 := hbm0.size
  clear hbm0
  go_wp2_with fail
  refine (HS.out _ _ _ _ gm0.rd).mono ?_
  rintro e wS ⟨S0a, S0n, S0c, S0b, S0m, S0d, rfl, S0g, hbS⟩
  have z23 := z21.trans (hbS.mono z21.size)
  have n24 := hbS.size
  clear hbS gm0
  go_wp2_with (first | go_skip | (refine wpList_store_row rfl 27 _ _ rfl wS.heap.size #[.slice S0a S0n S0c, .slice S0b S0m S0d] rfl rfl _ _ (heap_alloc_new wS (.cells #[.slice none 0 0, .slice none 0 0] 27)) (size_Alg _ _) rfl (one_sl2 _ _ _ _ _ _) ?_; rw [World.setRow_alloc_new]; obtain ⟨gS0, hgS0⟩ : ∃ g, g = wS.heap.size := ⟨_, rfl⟩; obtain ⟨wSb, hwSb⟩ : ∃ x, x = wS.alloc (.cells #[.slice S0a S0n S0c, .slice S0b S0m S0d] 27) := ⟨_, rfl⟩; rw [← hwSb, ← hgS0]; have hbwSb : Below wS.heap.size wS wSb := (by rw [hwSb]; exact (Below.refl _ _).alloc (Nat.le_refl _) _); have hxgS0 : wSb.heap[gS0]? = some (.cells #[.slice S0a S0n S0c, .slice S0b S0m S0d] 27 (0, 0)) := (by rw [hwSb, hgS0]; exact heap_alloc_new wS _); have ngS0 : wS.heap.size ≤ gS0 := Nat.le_of_eq hgS0.symm; have mgS0 : gS0 < wSb.heap.size := lt_of_block hxgS0; have KS := Lib.hid (show ∀ wz, Below wSb.heap.size wSb wz → wz.heap[gS0]? = some (.cells #[.slice S0a S0n S0c, .slice S0b S0m S0d] 27 (0, 0)) from fun wz h => (h.block _ (lt_of_block hxgS0)).trans hxgS0); clear hwSb hgS0 hxgS0; have z25 := z23.trans (hbwSb.mono z23.size); have Sz0 : Below wSb.heap.size wSb wSb := Below.refl _ _) | (refine wpList_load_row_w rfl 27 _ rfl gS0 rfl _ _ _ _ (KS.out _ (by assumption)) Try.underlying27 rfl (size_Alg _ _) ?_))
  have HS0 := Lib.hid (S0g.ra.below hbwSb)
  clear S0g
  clear hbwSb
  have nlo0 : w1.heap.size ≤ wSb.heap.size := z25.size
  refine (toIntS_G _ _ L0 _ (HR0.out.below z25) hs0).mono ?_
  rintro e x0w ⟨x0a, x0n, x0c, rfl, gx0, hbx0⟩
  have z26 := z25.trans (hbx0.mono z25.size)
  have Sz26 := Sz0.trans (hbx0.mono Sz0.size)
  have n27 := hbx0.size
  clear hbx0
  have GX0 := Lib.hid gx0
  clear gx0
  have y0z0 : Below x0w.heap.size x0w x0w := Below.refl _ _
  go_wp2_with (first | go_skip | (refine wpList_load_row_w rfl 27 _ rfl gS0 rfl _ _ _ _ (KS.out _ (by assumption)) Try.underlying27 rfl (size_Alg _ _) ?_))
  have nlg : w1.heap.size ≤ x0w.heap.size := z26.size
  refine (HI.out _ _ _ _ (GX0.out.below y0z0).rdc).mono ?_
  rintro e wI ⟨G0a, G0n, G0c, G0b, G0m, G0d, rfl, G0g, hbG⟩
  have z28 := z26.trans (hbG.mono z26.size)
  have Sz28 := Sz26.trans (hbG.mono Sz26.size)
  have y0z28 := y0z0.trans (hbG.mono y0z0.size)
  have n29 := hbG.size
  clear hbG
  go_wp2_with (first | go_skip | (refine wpList_store_row rfl 27 _ _ rfl wI.heap.size #[.slice G0a G0n G0c, .slice G0b G0m G0d] rfl rfl _ _ (heap_alloc_new wI (.cells #[.slice none 0 0, .slice none 0 0] 27)) (size_Alg _ _) rfl (one_sl2 _ _ _ _ _ _) ?_; rw [World.setRow_alloc_new]; obtain ⟨gG0, hgG0⟩ : ∃ g, g = wI.heap.size := ⟨_, rfl⟩; obtain ⟨wJ, hwJ⟩ : ∃ x, x = wI.alloc (.cells #[.slice G0a G0n G0c, .slice G0b G0m G0d] 27) := ⟨_, rfl⟩; rw [← hwJ, ← hgG0]; have hbwJ : Below wI.heap.size wI wJ := (by rw [hwJ]; exact (Below.refl _ _).alloc (Nat.le_refl _) _); have hxgG0 : wJ.heap[gG0]? = some (.cells #[.slice G0a G0n G0c, .slice G0b G0m G0d] 27 (0, 0)) := (by rw [hwJ, hgG0]; exact heap_alloc_new wI _); have ngG0 : wI.heap.size ≤ gG0 := Nat.le_of_eq hgG0.symm; have mgG0 : gG0 < wJ.heap.size := lt_of_block hxgG0; have KG := Lib.hid (show ∀ wz, Below wJ.heap.size wJ wz → wz.heap[gG0]? = some (.cells #[.slice G0a G0n G0c, .slice G0b G0m G0d] 27 (0, 0)) from fun wz h => (h.block _ (lt_of_block hxgG0)).trans hxgG0); clear hwJ hgG0 hxgG0; have z30 := z28.trans (hbwJ.mono z28.size); have Sz30 := Sz28.trans (hbwJ.mono Sz28.size); have y0z30 := y0z28.trans (hbwJ.mono y0z28.size); have Gz0 : Below wJ.heap.size wJ wJ := Below.refl _ _) | (refine wpList_load_row_w rfl 27 _ rfl gS0 rfl _ _ _ _ (KS.out _ (by assumption)) Try.underlying27 rfl (size_Alg _ _) ?_) | (refine wpList_load_row_w rfl 27 _ rfl gG0 rfl _ _ _ _ (KG.out _ (by assumption)) Try.underlying27 rfl (size_Alg _ _) ?_))
  have HG0 := Lib.hid (G0g.below hbwJ)
  clear G0g
  clear hbwJ
  refine (eqAlgebra_R _ _ _ _ VL0 VT0 _ (HG0.out.below Gz0).rd (HS0.out.below Sz30) TI0.out.sm).mono ?_
  rintro e c0w ⟨rfl, hbc0⟩
  have z31 := z30.trans (hbc0.mono z30.size)
  have Sz31 := Sz30.trans (hbc0.mono Sz30.size)
  have y0z31 := y0z30.trans (hbc0.mono y0z30.size)
  have Gz31 := Gz0.trans (hbc0.mono Gz0.size)
  have n32 := hbc0.size
  clear z30 Sz30 y0z30 Gz0 hbc0
  go_wp2_with (first | go_skip | (refine wpList_load_row_w rfl 27 _ rfl gS0 rfl _ _ _ _ (KS.out _ (by assumption)) Try.underlying27 rfl (size_Alg _ _) ?_) | (refine wpList_load_row_w rfl 27 _ rfl gG0 rfl _ _ _ _ (KG.out _ (by assumption)) Try.underlying27 rfl (size_Alg _ _) ?_))
  refine (toIntS_G _ _ L0 _ (HR0.out.below z31) hs0).mono ?_
  rintro e t0w ⟨t0a, t0n, t0c, rfl, gt0, hbt0⟩
  have z33 := z31.trans (hbt0.mono z31.size)
  have Sz33 := Sz31.trans (hbt0.mono Sz31.size)
  have y0z33 := y0z31.trans (hbt0.mono y0z31.size)
  have Gz33 := Gz31.trans (hbt0.mono Gz31.size)
  have n34 := hbt0.size
  clear z31 Sz31 y0z31 Gz31 hbt0
  go_wp2_with (first | go_skip | (refine wpList_load_row_w rfl 27 _ rfl gS0 rfl _ _ _ _ (KS.out _ (by assumption)) Try.underlying27 rfl (size_Alg _ _) ?_) | (refine wpList_load_row_w rfl 27 _ rfl gG0 rfl _ _ _ _ (KG.out _ (by assumption)) Try.underlying27 rfl (size_Alg _ _) ?_))
  refine (eqIntS_R _ _ L0 _ (GX0.out.below y0z33).rd gt0.rd hs0).mono ?_
  rintro e u0w ⟨rfl, hbu0⟩
  have z35 := z33.trans (hbu0.mono z33.size)
  have Sz35 := Sz33.trans (hbu0.mono Sz33.size)
  have y0z35 := y0z33.trans (hbu0.mono y0z33.size)
  have Gz35 := Gz33.trans (hbu0.mono Gz33.size)
  have n36 := hbu0.size
  clear z33 Sz33 y0z33 Gz33 hbu0
  clear gt0
  go_wp2_with (first | go_skip | (refine wpList_load_row_w rfl 27 _ rfl gS0 rfl _ _ _ _ (KS.out _ (by assumption)) Try.underlying27 rfl (size_Alg _ _) ?_) | (refine wpList_load_row_w rfl 27 _ rfl gG0 rfl _ _ _ _ (KG.out _ (by assumption)) Try.underlying27 rfl (size_Alg _ _) ?_))
  refine (markIntS_G wSb.heap.size x0w.heap.size _ L0 (1) _ (GX0.out.below y0z35) hs0 (by omega) (by omega)).mono ?_
  rintro e k0w ⟨rfl, _, mk0⟩
  have z37 := z35.trans (mk0.below (by omega) (by have := z35.size; omega))
  have Sz37 := Sz35.trans (mk0.below (by omega) (by have := Sz35.size; omega))
  replace HG0 := Lib.hid ((HG0.out.below Gz35).mid mk0 (by omega))
  have hxq := (mk0.block gG0 (lt_of_block (KG.out _ Gz35)) (.inr (by omega))).trans (KG.out _ Gz35)
  replace KG := Lib.hid (show ∀ wz, Below k0w.heap.size k0w wz → wz.heap[gG0]? = some (.cells #[.slice G0a G0n G0c, .slice G0b G0m G0d] 27 (0, 0)) from fun wz h => (h.block _ (lt_of_block hxq)).trans hxq)
  clear hxq
  have Gz37 : Below k0w.heap.size k0w k0w := Below.refl _ _
  have n38 := mk0.size
  clear z35 Sz35 y0z35 Gz35 mk0
  have hkx : ¬ 1 + (L0.length : Int) < 0 := by omega
  have hkb : decide (1 + (L0.length : Int) < 0) = false := decide_eq_false hkx
  go_wp2_with (first | go_skip | (refine wpList_load_row_w rfl 27 _ rfl gS0 rfl _ _ _ _ (KS.out _ (by assumption)) Try.underlying27 rfl (size_Alg _ _) ?_) | (refine wpList_load_row_w rfl 27 _ rfl gG0 rfl _ _ _ _ (KG.out _ (by assumption)) Try.underlying27 rfl (size_Alg _ _) ?_))
  refine (eqAlgebra_R _ _ _ _ VL0 VT0 _ (HG0.out.below Gz37).rd (HS0.out.below Sz37) TI0.out.sm).mono ?_
  rintro e d0w ⟨rfl, hbd0⟩
  have z39 := z37.trans (hbd0.mono z37.size)
  have Sz39 := Sz37.trans (hbd0.mono Sz37.size)
  have Gz39 := Gz37.trans (hbd0.mono Gz37.size)
  have n40 := hbd0.size
  clear z37 Sz37 Gz37 hbd0
  go_wp2_with (first | go_skip | (refine wpList_load_row_w rfl 27 _ rfl gS0 rfl _ _ _ _ (KS.out _ (by assumption)) Try.underlying27 rfl (size_Alg _ _) ?_) | (refine wpList_load_row_w rfl 27 _ rfl gG0 rfl _ _ _ _ (KG.out _ (by assumption)) Try.underlying27 rfl (size_Alg _ _) ?_))
  obtain ⟨vl0, vu0⟩ := wtA_le TI0.out.sm
  have nhg := Gz39.size
  refine (markAlgebra_G x0w.heap.size wI.heap.size _ _ _ _ _ _ VL0 VT0 (1) _ (HG0.out.below Gz39) (by omega) TI0.out.sm (by omega) (by omega)).mono ?_
  rintro e l0w ⟨rfl, MG0, ml0⟩
  have z41 := z39.trans (ml0.below (by omega) (by have := z39.size; omega))
  have Sz41 := Sz39.trans (ml0.below (by omega) (by have := Sz39.size; omega))
  have hxq := (ml0.block gG0 (lt_of_block (KG.out _ Gz39)) (.inr (by omega))).trans (KG.out _ Gz39)
  replace KG := Lib.hid (show ∀ wz, Below l0w.heap.size l0w wz → wz.heap[gG0]? = some (.cells #[.slice G0a G0n G0c, .slice G0b G0m G0d] 27 (0, 0)) from fun wz h => (h.block _ (lt_of_block hxq)).trans hxq)
  clear hxq
  replace MG0 := Lib.hid MG0
  have Gz41 : Below l0w.heap.size l0w l0w := Below.refl _ _
  clear z39 Sz39 Gz39 ml0
  have hq0 : ¬ 1 + wtA VL0 VT0 < 0 := by omega
  have hqb0 : decide (1 + wtA VL0 VT0 < 0) = false := decide_eq_false hq0
  have hqq : (1 + wtA VL0 VT0 != 1 + wtA VL0 VT0) = false := by simp
  go_wp2_with (first | go_skip | (refine wpList_load_row_w rfl 27 _ rfl gS0 rfl _ _ _ _ (KS.out _ (by assumption)) Try.underlying27 rfl (size_Alg _ _) ?_) | (refine wpList_load_row_w rfl 27 _ rfl gG0 rfl _ _ _ _ (KG.out _ (by assumption)) Try.underlying27 rfl (size_Alg _ _) ?_))
  refine (heldAlgebra_G _ _ _ _ _ _ VL0 VT0 (1) _ (MG0.out.below Gz41) TI0.out (by omega) (by omega)).mono ?_
  rintro e p0w ⟨rfl, hbp0⟩
  have z42 := z41.trans (hbp0.mono z41.size)
  have Sz42 := Sz41.trans (hbp0.mono Sz41.size)
  have Gz42 := Gz41.trans (hbp0.mono Gz41.size)
  have n43 := hbp0.size
  clear z41 Sz41 Gz41 hbp0
  go_wp2_with (first | go_skip | (refine wpList_load_row_w rfl 27 _ rfl gS0 rfl _ _ _ _ (KS.out _ (by assumption)) Try.underlying27 rfl (size_Alg _ _) ?_) | (refine wpList_load_row_w rfl 27 _ rfl gG0 rfl _ _ _ _ (KG.out _ (by assumption)) Try.underlying27 rfl (size_Alg _ _) ?_))
  refine (toIntS_G _ _ L0 _ (HR0.out.below z42) hs0).mono ?_
  rintro e o0w ⟨o0a, o0n, o0c, rfl, go0, hbo0⟩
  have z44 := z42.trans (hbo0.mono z42.size)
  have Sz44 := Sz42.trans (hbo0.mono Sz42.size)
  have Gz44 := Gz42.trans (hbo0.mono Gz42.size)
  have n45 := hbo0.size
  clear hbo0
  go_wp2_with (first | go_skip | (refine wpList_load_row_w rfl 27 _ rfl gS0 rfl _ _ _ _ (KS.out _ (by assumption)) Try.underlying27 rfl (size_Alg _ _) ?_) | (refine wpList_load_row_w rfl 27 _ rfl gG0 rfl _ _ _ _ (KG.out _ (by assumption)) Try.underlying27 rfl (size_Alg _ _) ?_))
  refine (HI.out _ _ _ _ go0.rdc).mono ?_
  rintro e wH ⟨H0a, H0n, H0c, H0b, H0m, H0d, rfl, H0g, hbH⟩
  have z46 := z44.trans (hbH.mono z44.size)
  have Sz46 := Sz44.trans (hbH.mono Sz44.size)
  have Gz46 := Gz44.trans (hbH.mono Gz44.size)
  have n47 := hbH.size
  clear hbH go0
  go_wp2_with (first | go_skip | (refine wpList_store_row rfl 27 _ _ rfl wH.heap.size #[.slice H0a H0n H0c, .slice H0b H0m H0d] rfl rfl _ _ (heap_alloc_new wH (.cells #[.slice none 0 0, .slice none 0 0] 27)) (size_Alg _ _) rfl (one_sl2 _ _ _ _ _ _) ?_; rw [World.setRow_alloc_new]; obtain ⟨gH0, hgH0⟩ : ∃ g, g = wH.heap.size := ⟨_, rfl⟩; obtain ⟨wHb, hwHb⟩ : ∃ x, x = wH.alloc (.cells #[.slice H0a H0n H0c, .slice H0b H0m H0d] 27) := ⟨_, rfl⟩; rw [← hwHb, ← hgH0]; have hbwHb : Below wH.heap.size wH wHb := (by rw [hwHb]; exact (Below.refl _ _).alloc (Nat.le_refl _) _); have hxgH0 : wHb.heap[gH0]? = some (.cells #[.slice H0a H0n H0c, .slice H0b H0m H0d] 27 (0, 0)) := (by rw [hwHb, hgH0]; exact heap_alloc_new wH _); have ngH0 : wH.heap.size ≤ gH0 := Nat.le_of_eq hgH0.symm; have mgH0 : gH0 < wHb.heap.size := lt_of_block hxgH0; have KH := Lib.hid (show ∀ wz, Below wHb.heap.size wHb wz → wz.heap[gH0]? = some (.cells #[.slice H0a H0n H0c, .slice H0b H0m H0d] 27 (0, 0)) from fun wz h => (h.block _ (lt_of_block hxgH0)).trans hxgH0); clear hwHb hgH0 hxgH0; have z48 := z46.trans (hbwHb.mono z46.size); have Sz48 := Sz46.trans (hbwHb.mono Sz46.size); have Gz48 := Gz46.trans (hbwHb.mono Gz46.size); have Hz0 : Below wHb.heap.size wHb wHb := Below.refl _ _) | (refine wpList_load_row_w rfl 27 _ rfl gS0 rfl _ _ _ _ (KS.out _ (by assumption)) Try.underlying27 rfl (size_Alg _ _) ?_) | (refine wpList_load_row_w rfl 27 _ rfl gG0 rfl _ _ _ _ (KG.out _ (by assumption)) Try.underlying27 rfl (size_Alg _ _) ?_) | (refine wpList_load_row_w rfl 27 _ rfl gH0 rfl _ _ _ _ (KH.out _ (by assumption)) Try.underlying27 rfl (size_Alg _ _) ?_))
  have HH0 := Lib.hid (H0g.below hbwHb)
  clear H0g
  clear hbwHb
  refine (eqAlgebra_R _ _ _ _ VL0 VT0 _ (HH0.out.below Hz0).rd (HS0.out.below Sz48) TI0.out.sm).mono ?_
  rintro e r0w ⟨rfl, hbr0⟩
  have z49 := z48.trans (hbr0.mono z48.size)
  have Sz49 := Sz48.trans (hbr0.mono Sz48.size)
  have Gz49 := Gz48.trans (hbr0.mono Gz48.size)
  have Hz49 := Hz0.trans (hbr0.mono Hz0.size)
  have n50 := hbr0.size
  clear z48 Sz48 Gz48 Hz0 hbr0
  go_wp2_with (first | go_skip | (refine wpList_load_row_w rfl 27 _ rfl gS0 rfl _ _ _ _ (KS.out _ (by assumption)) Try.underlying27 rfl (size_Alg _ _) ?_) | (refine wpList_load_row_w rfl 27 _ rfl gG0 rfl _ _ _ _ (KG.out _ (by assumption)) Try.underlying27 rfl (size_Alg _ _) ?_) | (refine wpList_load_row_w rfl 27 _ rfl gH0 rfl _ _ _ _ (KH.out _ (by assumption)) Try.underlying27 rfl (size_Alg _ _) ?_))
  go_wp2_with (first | go_skip | (refine wpList_load_row_w rfl 27 _ rfl gS0 rfl _ _ _ _ (KS.out _ (by assumption)) Try.underlying27 rfl (size_Alg _ _) ?_) | (refine wpList_load_row_w rfl 27 _ rfl gG0 rfl _ _ _ _ (KG.out _ (by assumption)) Try.underlying27 rfl (size_Alg _ _) ?_))
  refine (heldAlgebra_G _ _ _ _ _ _ VL0 VT0 (1) _ (MG0.out.below Gz49) TI0.out (by omega) (by omega)).mono ?_
  rintro e u0w ⟨rfl, hbu0⟩
  have z51 := z49.trans (hbu0.mono z49.size)
  have Sz51 := Sz49.trans (hbu0.mono Sz49.size)
  have Gz51 := Gz49.trans (hbu0.mono Gz49.size)
  have Hz51 := Hz49.trans (hbu0.mono Hz49.size)
  have n52 := hbu0.size
  clear z49 Sz49 Gz49 Hz49 hbu0
  go_wp2
  go_ret
  exact ⟨rfl, hB.trans (z51.mono hB.size)⟩
end Go.Proofs.Ytnmhbbekmepinaa
