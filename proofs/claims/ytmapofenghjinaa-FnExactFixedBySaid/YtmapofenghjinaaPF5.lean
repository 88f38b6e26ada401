import Derived.Test.YtmapofenghjinaaPF4
import Derived.Test.YtmapofenghjinaaL6
namespace Go.Proofs.Ytmapofenghjinaa
open Go.RowKit
set_option maxRecDepth 100000 in
set_option maxHeartbeats 8000000 in
/-- the law -/
theorem lawFixedBy (a0 b0 : Option Addr) (ca0 cb0 : Nat) (L0 : List Int) (T0 : List (List Int)) (a1 : Option Addr) (ca1 : Nat) (L1 : List Int) (w : World) (hr0 : Rd w a0 L0) (ht0 : RdT w b0 T0) (hL0 : L0.length ≤ maxLen) (hn0 : T0.length ≤ maxLen) (hm0 : ∀ j : Nat, j < T0.length → (rowAt T0 j).length ≤ maxLen) (hr1 : Rd w a1 L1) (hL1 : L1.length ≤ maxLen) :
    Calls Try.prog 14 #[.agg #[.slice a0 L0.length ca0, .slice b0 T0.length cb0], .slice a1 L1.length ca1] w fun e w' => e = .returned (.bool true) ∧ Below w.heap.size w w' := by
  unfold maxLen at *
  have HM0 := Lib.hid (show ∀ j : Nat, j < T0.length → ((rowAt T0 j).length : Int) ≤ 9223372036854775807 from fun j hj => by have := hm0 j hj; omega)
  have hLL0 : (L0.length : Int) ≤ 9223372036854775807 := by omega
  have hnn0 : (T0.length : Int) ≤ 9223372036854775807 := by omega
  obtain ⟨w1, hw1⟩ : ∃ w1, w1 = (w.alloc (.cells #[.slice a0 L0.length ca0, .slice b0 T0.length cb0] 25)) := ⟨_, rfl⟩
  have hB : Below w.heap.size w w1 := by rw [hw1]; exact ((Below.refl _ _).alloc (Nat.le_refl _) _)
  have hx0 : w1.heap[w.heap.size]? = some (.cells #[.slice a0 L0.length ca0, .slice b0 T0.length cb0] 25 (0, 0)) := by rw [hw1]; exact heap_alloc_new w _
  have Kx0 := Lib.hid (show ∀ wz, Below w1.heap.size w1 wz → wz.heap[w.heap.size]? = some (.cells #[.slice a0 L0.length ca0, .slice b0 T0.length cb0] 25 (0, 0)) from fun wz h => (h.block _ (lt_of_block hx0)).trans hx0)
  have HR0 := Lib.hid (hr0.below hB)
  have HT0 := Lib.hid (ht0.below hB)
  have HR1 := Lib.hid (hr1.below hB)
  have z0 : Below w1.heap.size w1 w1 := Below.refl _ _
  by_cases hb1 : 1048576 < L1.length
  · have hc1 : (1048576 : Int) < (L1.length : Int) := by omega
    go_enter Try.func14, Try.ntmps14
    go_wp2_with (rw [← hw1]; clear hw1)
    go_ret
    exact ⟨rfl, hB⟩
  have hs1 : L1.length ≤ 1048576 := by omega
  have hss1 : (L1.length : Int) ≤ 1048576 := by omega
  clear hb1
  have TI0 := Lib.hid (fb_ti L0 T0 L1 : Ti (fbL L0 T0 L1) (fbT L0 T0 L1))
  obtain ⟨VL0, hVL0⟩ : ∃ V, V = fbL L0 T0 L1 := ⟨_, rfl⟩
  obtain ⟨VT0, hVT0⟩ : ∃ V, V = fbT L0 T0 L1 := ⟨_, rfl⟩
  rw [← hVL0, ← hVT0] at TI0
  obtain ⟨V1, hV1⟩ : ∃ V, V = fbOk L0 T0 L1 := ⟨_, rfl⟩
  have hne1 : (V1 != V1) = false := by simp
  have HS := Lib.hid (show ∀ (a0 : Option Addr) (n0 c0 : Nat) (b0 : Option Addr) (m0 d0 : Nat) (a1 : Option Addr) (n1 c1 : Nat) (w : World), RA w (.slice a0 n0 c0) (.slice b0 m0 d0) L0 T0 → RS w (.slice a1 n1 c1) L1 → Calls Try.prog 46 #[.agg #[.slice a0 n0 c0, .slice b0 m0 d0], .slice a1 n1 c1] w (RetSAb VL0 VT0 V1 w) from fun a0 n0 c0 b0 m0 d0 a1 n1 c1 w h0 h1 => by obtain ⟨xa0, xc0, xb0, xd0, e0, f0, r0, t0⟩ := h0; obtain ⟨xa1, xc1, e1, r1⟩ := h1; rw [e0, f0, e1, hVL0, hVT0, hV1]; exact specFixedBy_any xa0 xb0 xc0 xd0 L0 T0 xa1 xc1 L1 w r0 t0 r1 hs1)
  have HI := Lib.hid (show ∀ (a0 : Option Addr) (n0 c0 : Nat) (b0 : Option Addr) (m0 d0 : Nat) (a1 : Option Addr) (n1 c1 : Nat) (w : World), RA w (.slice a0 n0 c0) (.slice b0 m0 d0) L0 T0 → RS w (.slice a1 n1 c1) L1 → Calls Try.prog 47 #[.agg #[.slice a0 n0 c0, .slice b0 m0 d0], .slice a1 n1 c1] w (RetGAb VL0 VT0 V1 w) from fun a0 n0 c0 b0 m0 d0 a1 n1 c1 w h0 h1 => by obtain ⟨xa0, xc0, xb0, xd0, e0, f0, r0, t0⟩ := h0; obtain ⟨xa1, xc1, e1, r1⟩ := h1; rw [e0, f0, e1, hVL0, hVT0, hV1]; exact implFixedBy_any xa0 xb0 xc0 xd0 L0 T0 xa1 xc1 L1 w r0 t0 r1 hs1)
  clear hVL0 hVT0 hV1 hm0 ht0 hx0 hr0 hr1
  go_enter Try.func14, Try.ntmps14
  go_wp2_with (first | (rw [← hw1]; clear hw1) | (refine wpList_load_row_w rfl 25 _ rfl w.heap.size rfl _ _ _ _ (Kx0.out _ (by first | assumption | exact (by assumption : Below _ w1 _).alloc (Below.size (by assumption)) _)) Try.underlying25 rfl (size_LAlg _ _) ?_))
  refine (szAlgebra_any _ _ _ _ L0 T0 1048576 _ (HT0.out.below z0) (by omega) (by omega) hLL0 HM0.out hnn0).mono ?_
  rintro e s0w ⟨⟨v0, rfl, p0, q0, r0⟩, hbs0⟩
  have z21 := z0.trans (hbs0.mono z0.size)
  have n22 := hbs0.size
  clear z0 hbs0
  by_cases hv0 : v0 < 0
  · go_wp2
    go_ret
    exact ⟨rfl, hB.trans (z21.mono hB.size)⟩
  obtain ⟨s1, s2, s3⟩ := r0 (by omega)
  have Sm0 := Lib.hid (show Sm L0 T0 from ⟨by omega, by omega, fun j hj => by have := s3 j hj; omega⟩)
  obtain ⟨wl0, wu0⟩ := wtA_le Sm0.out
  clear s1 s2 s3 r0
  go_wp2_with (first | go_skip | (refine wpList_load_row_w rfl 25 _ rfl w.heap.size rfl _ _ _ _ (Kx0.out _ (by first | assumption | exact (by assumption : Below _ w1 _).alloc (Below.size (by assumption)) _)) Try.underlying25 rfl (size_LAlg _ _) ?_))
  refine (toAlgebra_G _ _ _ _ L0 T0 _ (HR0.out.below z21) (HT0.out.below z21) Sm0.out).mono ?_
  rintro e m0w ⟨m0a, m0n, m0c, m0b, m0m, m0d, rfl, gm0, hbm0⟩
  have z23 := z21.trans (hbm0.mono z21.size)
  have n24 := hbm0.size
  clear hbm0
  go_wp2_with (first | go_skip | (refine wpList_load_row_w rfl 25 _ rfl w.heap.size rfl _ _ _ _ (Kx0.out _ (by first | assumption | exact (by assumption : Below _ w1 _).alloc (Below.size (by assumption)) _)) Try.underlying25 rfl (size_LAlg _ _) ?_))
  refine (toIntS_G _ _ L1 _ (HR1.out.below z23) hs1).mono ?_
  rintro e m1w ⟨m1a, m1n, m1c, rfl, gm1, hbm1⟩
  have z25 := z23.trans (hbm1.mono z23.size)
  have n26 := hbm1.size
  replace gm0 := gm0.below hbm1
  clear hbm1
  go_wp2_with (first | go_skip | (refine wpList_load_row_w rfl 25 _ rfl w.heap.size rfl _ _ _ _ (Kx0.out _ (by first | assumption | exact (by assumption : Below _ w1 _).alloc (Below.size (by assumption)) _)) Try.underlying25 rfl (size_LAlg _ _) ?_))
  refine (HS.out _ _ _ _ _ _ _ _ _ _ gm0.rd gm1.rd).mono ?_
  rintro e wS ⟨S0a, S0n, S0c, S0b, S0m, S0d, rfl, S0g, hbS⟩
  have z27 := z25.trans (hbS.mono z25.size)
  have n28 := hbS.size
  clear hbS gm0 gm1
  go_wp2_with (first | go_skip | (refine wpList_store_row rfl 28 _ _ rfl wS.heap.size #[.slice S0a S0n S0c, .slice S0b S0m S0d] rfl rfl _ _ (heap_alloc_new wS (.cells #[.slice none 0 0, .slice none 0 0] 28)) (size_Alg _ _) rfl (one_sl2 _ _ _ _ _ _) ?_; rw [World.setRow_alloc_new]; obtain ⟨gS0, hgS0⟩ : ∃ g, g = wS.heap.size := ⟨_, rfl⟩; obtain ⟨wSb, hwSb⟩ : ∃ x, x = wS.alloc (.cells #[.slice S0a S0n S0c, .slice S0b S0m S0d] 28) := ⟨_, rfl⟩; rw [← hwSb, ← hgS0]; have hbwSb : Below wS.heap.size wS wSb := (by rw [hwSb]; exact (Below.refl _ _).alloc (Nat.le_refl _) _); have hxgS0 : wSb.heap[gS0]? = some (.cells #[.slice S0a S0n S0c, .slice S0b S0m S0d] 28 (0, 0)) := (by rw [hwSb, hgS0]; exact heap_alloc_new wS _); have ngS0 : wS.heap.size ≤ gS0 := Nat.le_of_eq hgS0.symm; have mgS0 : gS0 < wSb.heap.size := lt_of_block hxgS0; have KS := Lib.hid (show ∀ wz, Below wSb.heap.size wSb wz → wz.heap[gS0]? = some (.cells #[.slice S0a S0n S0c, .slice S0b S0m S0d] 28 (0, 0)) from fun wz h => (h.block _ (lt_of_block hxgS0)).trans hxgS0); clear hwSb hgS0 hxgS0; have z29 := z27.trans (hbwSb.mono z27.size); have Sz0 : Below wSb.heap.size wSb wSb := Below.refl _ _) | (refine wpList_load_row_w rfl 25 _ rfl w.heap.size rfl _ _ _ _ (Kx0.out _ (by first | assumption | exact (by assumption : Below _ w1 _).alloc (Below.size (by assumption)) _)) Try.underlying25 rfl (size_LAlg _ _) ?_) | (refine wpList_load_row_w rfl 28 _ rfl gS0 rfl _ _ _ _ (KS.out _ (by assumption)) Try.underlying28 rfl (size_Alg _ _) ?_))
  have HS0 := Lib.hid (S0g.ra.below hbwSb)
  clear S0g
  clear hbwSb
  have nlo0 : w1.heap.size ≤ wSb.heap.size := z29.size
  refine (toAlgebra_G _ _ _ _ L0 T0 _ (HR0.out.below z29) (HT0.out.below z29) Sm0.out).mono ?_
  rintro e x0w ⟨x0a, x0n, x0c, x0b, x0m, x0d, rfl, gx0, hbx0⟩
  have z30 := z29.trans (hbx0.mono z29.size)
  have Sz30 := Sz0.trans (hbx0.mono Sz0.size)
  have n31 := hbx0.size
  clear hbx0
  go_wp2_with (first | go_skip | (refine wpList_load_row_w rfl 25 _ rfl w.heap.size rfl _ _ _ _ (Kx0.out _ (by first | assumption | exact (by assumption : Below _ w1 _).alloc (Below.size (by assumption)) _)) Try.underlying25 rfl (size_LAlg _ _) ?_) | (refine wpList_load_row_w rfl 28 _ rfl gS0 rfl _ _ _ _ (KS.out _ (by assumption)) Try.underlying28 rfl (size_Alg _ _) ?_))
  obtain ⟨b0, hb0⟩ : ∃ g, g = x0w.heap.size := ⟨_, rfl⟩
  obtain ⟨X0w, hX0w⟩ : ∃ x, x = x0w.alloc (.cells #[.slice x0a x0n x0c, .slice x0b x0m x0d] 28) := ⟨_, rfl⟩
  rw [← hX0w, ← hb0]
  have hbX0w : Below x0w.heap.size x0w X0w := (by rw [hX0w]; exact (Below.refl _ _).alloc (Nat.le_refl _) _)
  have hxb0 : X0w.heap[b0]? = some (.cells #[.slice x0a x0n x0c, .slice x0b x0m x0d] 28 (0, 0)) := (by rw [hX0w, hb0]; exact heap_alloc_new x0w _)
  have nb0 : x0w.heap.size ≤ b0 := Nat.le_of_eq hb0.symm
  have mb0 : b0 < X0w.heap.size := lt_of_block hxb0
  have KX0 := Lib.hid (show ∀ wz, Below X0w.heap.size X0w wz → wz.heap[b0]? = some (.cells #[.slice x0a x0n x0c, .slice x0b x0m x0d] 28 (0, 0)) from fun wz h => (h.block _ (lt_of_block hxb0)).trans hxb0)
  clear hX0w hb0 hxb0
  have GX0 := Lib.hid (gx0.below hbX0w)
  clear gx0
  have z32 := z30.trans (hbX0w.mono z30.size)
  have Sz32 := Sz30.trans (hbX0w.mono Sz30.size)
  have n33 := hbX0w.size
  clear z30 Sz30 hbX0w
  have y0z0 : Below X0w.heap.size X0w X0w := Below.refl _ _
  go_wp2_with (first | go_skip | (refine wpList_load_row_w rfl 25 _ rfl w.heap.size rfl _ _ _ _ (Kx0.out _ (by first | assumption | exact (by assumption : Below _ w1 _).alloc (Below.size (by assumption)) _)) Try.underlying25 rfl (size_LAlg _ _) ?_) | (refine wpList_load_row_w rfl 28 _ rfl gS0 rfl _ _ _ _ (KS.out _ (by assumption)) Try.underlying28 rfl (size_Alg _ _) ?_) | (refine wpList_load_row_w rfl 28 _ rfl b0 rfl _ _ _ _ (KX0.out _ (by assumption)) Try.underlying28 rfl (size_Alg _ _) ?_))
  have nlo1 : w1.heap.size ≤ X0w.heap.size := z32.size
  refine (toIntS_G _ _ L1 _ (HR1.out.below z32) hs1).mono ?_
  rintro e x1w ⟨x1a, x1n, x1c, rfl, gx1, hbx1⟩
  have z34 := z32.trans (hbx1.mono z32.size)
  have Sz34 := Sz32.trans (hbx1.mono Sz32.size)
  have y0z34 := y0z0.trans (hbx1.mono y0z0.size)
  have n35 := hbx1.size
  clear hbx1
  have GX1 := Lib.hid gx1
  clear gx1
  have y1z0 : Below x1w.heap.size x1w x1w := Below.refl _ _
  go_wp2_with (first | go_skip | (refine wpList_load_row_w rfl 25 _ rfl w.heap.size rfl _ _ _ _ (Kx0.out _ (by first | assumption | exact (by assumption : Below _ w1 _).alloc (Below.size (by assumption)) _)) Try.underlying25 rfl (size_LAlg _ _) ?_) | (refine wpList_load_row_w rfl 28 _ rfl gS0 rfl _ _ _ _ (KS.out _ (by assumption)) Try.underlying28 rfl (size_Alg _ _) ?_) | (refine wpList_load_row_w rfl 28 _ rfl b0 rfl _ _ _ _ (KX0.out _ (by assumption)) Try.underlying28 rfl (size_Alg _ _) ?_))
  have nlg : w1.heap.size ≤ x1w.heap.size := z34.size
  refine (HI.out _ _ _ _ _ _ _ _ _ _ (GX0.out.below y0z34).rd (GX1.out.below y1z0).rd).mono ?_
  rintro e wI ⟨G0a, G0n, G0c, G0b, G0m, G0d, rfl, G0g, hbG⟩
  have z36 := z34.trans (hbG.mono z34.size)
  have Sz36 := Sz34.trans (hbG.mono Sz34.size)
  have y0z36 := y0z34.trans (hbG.mono y0z34.size)
  have y1z36 := y1z0.trans (hbG.mono y1z0.size)
  have n37 := hbG.size
  clear hbG
  go_wp2_with (first | go_skip | (refine wpList_store_row rfl 28 _ _ rfl wI.heap.size #[.slice G0a G0n G0c, .slice G0b G0m G0d] rfl rfl _ _ (heap_alloc_new wI (.cells #[.slice none 0 0, .slice none 0 0] 28)) (size_Alg _ _) rfl (one_sl2 _ _ _ _ _ _) ?_; rw [World.setRow_alloc_new]; obtain ⟨gG0, hgG0⟩ : ∃ g, g = wI.heap.size := ⟨_, rfl⟩; obtain ⟨wJ, hwJ⟩ : ∃ x, x = wI.alloc (.cells #[.slice G0a G0n G0c, .slice G0b G0m G0d] 28) := ⟨_, rfl⟩; rw [← hwJ, ← hgG0]; have hbwJ : Below wI.heap.size wI wJ := (by rw [hwJ]; exact (Below.refl _ _).alloc (Nat.le_refl _) _); have hxgG0 : wJ.heap[gG0]? = some (.cells #[.slice G0a G0n G0c, .slice G0b G0m G0d] 28 (0, 0)) := (by rw [hwJ, hgG0]; exact heap_alloc_new wI _); have ngG0 : wI.heap.size ≤ gG0 := Nat.le_of_eq hgG0.symm; have mgG0 : gG0 < wJ.heap.size := lt_of_block hxgG0; have KG := Lib.hid (show ∀ wz, Below wJ.heap.size wJ wz → wz.heap[gG0]? = some (.cells #[.slice G0a G0n G0c, .slice G0b G0m G0d] 28 (0, 0)) from fun wz h => (h.block _ (lt_of_block hxgG0)).trans hxgG0); clear hwJ hgG0 hxgG0; have z38 := z36.trans (hbwJ.mono z36.size); have Sz38 := Sz36.trans (hbwJ.mono Sz36.size); have y0z38 := y0z36.trans (hbwJ.mono y0z36.size); have y1z38 := y1z36.trans (hbwJ.mono y1z36.size); have Gz0 : Below wJ.heap.size wJ wJ := Below.refl _ _) | (refine wpList_load_row_w rfl 25 _ rfl w.heap.size rfl _ _ _ _ (Kx0.out _ (by first | assumption | exact (by assumption : Below _ w1 _).alloc (Below.size (by assumption)) _)) Try.underlying25 rfl (size_LAlg _ _) ?_) | (refine wpList_load_row_w rfl 28 _ rfl gS0 rfl _ _ _ _ (KS.out _ (by assumption)) Try.underlying28 rfl (size_Alg _ _) ?_) | (refine wpList_load_row_w rfl 28 _ rfl b0 rfl _ _ _ _ (KX0.out _ (by assumption)) Try.underlying28 rfl (size_Alg _ _) ?_) | (refine wpList_load_row_w rfl 28 _ rfl gG0 rfl _ _ _ _ (KG.out _ (by assumption)) Try.underlying28 rfl (size_Alg _ _) ?_))
  have HG0 := Lib.hid (G0g.below hbwJ)
  clear G0g
  clear hbwJ
  refine (eqAlgebra_R _ _ _ _ VL0 VT0 _ (HG0.out.below Gz0).rd (HS0.out.below Sz38) TI0.out.sm).mono ?_
  rintro e c0w ⟨rfl, hbc0⟩
  have z39 := z38.trans (hbc0.mono z38.size)
  have Sz39 := Sz38.trans (hbc0.mono Sz38.size)
  have y0z39 := y0z38.trans (hbc0.mono y0z38.size)
  have y1z39 := y1z38.trans (hbc0.mono y1z38.size)
  have Gz39 := Gz0.trans (hbc0.mono Gz0.size)
  have n40 := hbc0.size
  clear z38 Sz38 y0z38 y1z38 Gz0 hbc0
  go_wp2_with (first | go_skip | (refine wpList_load_row_w rfl 25 _ rfl w.heap.size rfl _ _ _ _ (Kx0.out _ (by first | assumption | exact (by assumption : Below _ w1 _).alloc (Below.size (by assumption)) _)) Try.underlying25 rfl (size_LAlg _ _) ?_) | (refine wpList_load_row_w rfl 28 _ rfl gS0 rfl _ _ _ _ (KS.out _ (by assumption)) Try.underlying28 rfl (size_Alg _ _) ?_) | (refine wpList_load_row_w rfl 28 _ rfl b0 rfl _ _ _ _ (KX0.out _ (by assumption)) Try.underlying28 rfl (size_Alg _ _) ?_) | (refine wpList_load_row_w rfl 28 _ rfl gG0 rfl _ _ _ _ (KG.out _ (by assumption)) Try.underlying28 rfl (size_Alg _ _) ?_))
  obtain ⟨c0, c1⟩ := bxL_cells (Kx0.out _ z39)
  obtain ⟨d0, d1⟩ := bx_cells (KX0.out _ y0z39)
  go_wp2
  go_region_with (first
    | (go_at_call 17; refine (toAlgebra_G _ _ _ _ L0 T0 _ (HR0.out.below z39.drew) (HT0.out.below z39.drew) Sm0.out).mono ?_; rintro e e0w ⟨e0a, e0n, e0c, e0b, e0m, e0d, rfl, ge0, hbe0⟩; have z41 := z39.drew.trans (hbe0.mono z39.drew.size); have Sz41 := Sz39.drew.trans (hbe0.mono Sz39.drew.size); have y0z41 := y0z39.drew.trans (hbe0.mono y0z39.drew.size); have y1z41 := y1z39.drew.trans (hbe0.mono y1z39.drew.size); have Gz41 := Gz39.drew.trans (hbe0.mono Gz39.drew.size); obtain ⟨e0, e1⟩ := bx_cells (KX0.out _ y0z41))
    | (go_at_call 19; refine (eqAlgebra_R _ _ _ _ L0 T0 _ (GX0.out.below y0z41).rd ge0.rd Sm0.out).mono ?_; rintro e f0w ⟨rfl, hbf0⟩; have z42 := z41.trans (hbf0.mono z41.size); have Sz42 := Sz41.trans (hbf0.mono Sz41.size); have y0z42 := y0z41.trans (hbf0.mono y0z41.size); have y1z42 := y1z41.trans (hbf0.mono y1z41.size); have Gz42 := Gz41.trans (hbf0.mono Gz41.size)))
  all_goals
    clear c0 c1 d0 d1 e0 e1 ge0 hbe0 hbf0 z39 Sz39 y0z39 y1z39 Gz39 z41 Sz41 y0z41 y1z41 Gz41
    have nf0 := Gz42.size
    go_wp2_with (first | go_skip | (refine wpList_load_row_w rfl 25 _ rfl w.heap.size rfl _ _ _ _ (Kx0.out _ (by first | assumption | exact (by assumption : Below _ w1 _).alloc (Below.size (by assumption)) _)) Try.underlying25 rfl (size_LAlg _ _) ?_) | (refine wpList_load_row_w rfl 28 _ rfl gS0 rfl _ _ _ _ (KS.out _ (by assumption)) Try.underlying28 rfl (size_Alg _ _) ?_) | (refine wpList_load_row_w rfl 28 _ rfl b0 rfl _ _ _ _ (KX0.out _ (by assumption)) Try.underlying28 rfl (size_Alg _ _) ?_) | (refine wpList_load_row_w rfl 28 _ rfl gG0 rfl _ _ _ _ (KG.out _ (by assumption)) Try.underlying28 rfl (size_Alg _ _) ?_))
    refine (toIntS_G _ _ L1 _ (HR1.out.below z42) hs1).mono ?_
    rintro e t1w ⟨t1a, t1n, t1c, rfl, gt1, hbt1⟩
    have z43 := z42.trans (hbt1.mono z42.size)
    have Sz43 := Sz42.trans (hbt1.mono Sz42.size)
    have y0z43 := y0z42.trans (hbt1.mono y0z42.size)
    have y1z43 := y1z42.trans (hbt1.mono y1z42.size)
    have Gz43 := Gz42.trans (hbt1.mono Gz42.size)
    have n44 := hbt1.size
    clear z42 Sz42 y0z42 y1z42 Gz42 hbt1
    go_wp2_with (first | go_skip | (refine wpList_load_row_w rfl 25 _ rfl w.heap.size rfl _ _ _ _ (Kx0.out _ (by first | assumption | exact (by assumption : Below _ w1 _).alloc (Below.size (by assumption)) _)) Try.underlying25 rfl (size_LAlg _ _) ?_) | (refine wpList_load_row_w rfl 28 _ rfl gS0 rfl _ _ _ _ (KS.out _ (by assumption)) Try.underlying28 rfl (size_Alg _ _) ?_) | (refine wpList_load_row_w rfl 28 _ rfl b0 rfl _ _ _ _ (KX0.out _ (by assumption)) Try.underlying28 rfl (size_Alg _ _) ?_) | (refine wpList_load_row_w rfl 28 _ rfl gG0 rfl _ _ _ _ (KG.out _ (by assumption)) Try.underlying28 rfl (size_Alg _ _) ?_))
    refine (eqIntS_R _ _ L1 _ (GX1.out.below y1z43).rd gt1.rd hs1).mono ?_
    rintro e u1w ⟨rfl, hbu1⟩
    have z45 := z43.trans (hbu1.mono z43.size)
    have Sz45 := Sz43.trans (hbu1.mono Sz43.size)
    have y0z45 := y0z43.trans (hbu1.mono y0z43.size)
    have y1z45 := y1z43.trans (hbu1.mono y1z43.size)
    have Gz45 := Gz43.trans (hbu1.mono Gz43.size)
    have n46 := hbu1.size
    clear z43 Sz43 y0z43 y1z43 Gz43 hbu1
    clear gt1
    go_wp2_with (first | go_skip | (refine wpList_load_row_w rfl 25 _ rfl w.heap.size rfl _ _ _ _ (Kx0.out _ (by first | assumption | exact (by assumption : Below _ w1 _).alloc (Below.size (by assumption)) _)) Try.underlying25 rfl (size_LAlg _ _) ?_) | (refine wpList_load_row_w rfl 28 _ rfl gS0 rfl _ _ _ _ (KS.out _ (by assumption)) Try.underlying28 rfl (size_Alg _ _) ?_) | (refine wpList_load_row_w rfl 28 _ rfl b0 rfl _ _ _ _ (KX0.out _ (by assumption)) Try.underlying28 rfl (size_Alg _ _) ?_) | (refine wpList_load_row_w rfl 28 _ rfl gG0 rfl _ _ _ _ (KG.out _ (by assumption)) Try.underlying28 rfl (size_Alg _ _) ?_))
    have nhi0 := y0z45.size
    refine (markAlgebra_G wSb.heap.size x0w.heap.size _ _ _ _ _ _ L0 T0 (1) _ (GX0.out.below y0z45) (by omega) Sm0.out (by omega) (by omega)).mono ?_
    rintro e k0w ⟨rfl, _, mk0⟩
    have z47 := z45.trans (mk0.below (by omega) (by have := z45.size; omega))
    have Sz47 := Sz45.trans (mk0.below (by omega) (by have := Sz45.size; omega))
    replace GX1 := Lib.hid ((GX1.out.below y1z45).mid mk0 (by omega))
    have y1z47 : Below k0w.heap.size k0w k0w := Below.refl _ _
    replace HG0 := Lib.hid ((HG0.out.below Gz45).mid mk0 (by omega))
    have hxq := (mk0.block gG0 (lt_of_block (KG.out _ Gz45)) (.inr (by omega))).trans (KG.out _ Gz45)
    replace KG := Lib.hid (show ∀ wz, Below k0w.heap.size k0w wz → wz.heap[gG0]? = some (.cells #[.slice G0a G0n G0c, .slice G0b G0m G0d] 28 (0, 0)) from fun wz h => (h.block _ (lt_of_block hxq)).trans hxq)
    clear hxq
    have Gz47 : Below k0w.heap.size k0w k0w := Below.refl _ _
    have n48 := mk0.size
    clear z45 Sz45 y0z45 y1z45 Gz45 mk0
    go_wp2_with (first | go_skip | (refine wpList_load_row_w rfl 25 _ rfl w.heap.size rfl _ _ _ _ (Kx0.out _ (by first | assumption | exact (by assumption : Below _ w1 _).alloc (Below.size (by assumption)) _)) Try.underlying25 rfl (size_LAlg _ _) ?_) | (refine wpList_load_row_w rfl 28 _ rfl gS0 rfl _ _ _ _ (KS.out _ (by assumption)) Try.underlying28 rfl (size_Alg _ _) ?_) | (refine wpList_load_row_w rfl 28 _ rfl gG0 rfl _ _ _ _ (KG.out _ (by assumption)) Try.underlying28 rfl (size_Alg _ _) ?_))
    refine (markIntS_G X0w.heap.size x1w.heap.size _ L1 (1 + wtA L0 T0) _ (GX1.out.below y1z47) hs1 (by omega) (by omega)).mono ?_
    rintro e k1w ⟨rfl, _, mk1⟩
    have z49 := z47.trans (mk1.below (by omega) (by have := z47.size; omega))
    have Sz49 := Sz47.trans (mk1.below (by omega) (by have := Sz47.size; omega))
    replace HG0 := Lib.hid ((HG0.out.below Gz47).mid mk1 (by omega))
    have hxq := (mk1.block gG0 (lt_of_block (KG.out _ Gz47)) (.inr (by omega))).trans (KG.out _ Gz47)
    replace KG := Lib.hid (show ∀ wz, Below k1w.heap.size k1w wz → wz.heap[gG0]? = some (.cells #[.slice G0a G0n G0c, .slice G0b G0m G0d] 28 (0, 0)) from fun wz h => (h.block _ (lt_of_block hxq)).trans hxq)
    clear hxq
    have Gz49 : Below k1w.heap.size k1w k1w := Below.refl _ _
    have n50 := mk1.size
    clear z47 Sz47 y1z47 Gz47 mk1
    have hkx : ¬ 1 + wtA L0 T0 + (L1.length : Int) < 0 := by omega
    have hkb : decide (1 + wtA L0 T0 + (L1.length : Int) < 0) = false := decide_eq_false hkx
    go_wp2_with (first | go_skip | (refine wpList_load_row_w rfl 25 _ rfl w.heap.size rfl _ _ _ _ (Kx0.out _ (by first | assumption | exact (by assumption : Below _ w1 _).alloc (Below.size (by assumption)) _)) Try.underlying25 rfl (size_LAlg _ _) ?_) | (refine wpList_load_row_w rfl 28 _ rfl gS0 rfl _ _ _ _ (KS.out _ (by assumption)) Try.underlying28 rfl (size_Alg _ _) ?_) | (refine wpList_load_row_w rfl 28 _ rfl gG0 rfl _ _ _ _ (KG.out _ (by assumption)) Try.underlying28 rfl (size_Alg _ _) ?_))
    refine (eqAlgebra_R _ _ _ _ VL0 VT0 _ (HG0.out.below Gz49).rd (HS0.out.below Sz49) TI0.out.sm).mono ?_
    rintro e d0w ⟨rfl, hbd0⟩
    have z51 := z49.trans (hbd0.mono z49.size)
    have Sz51 := Sz49.trans (hbd0.mono Sz49.size)
    have Gz51 := Gz49.trans (hbd0.mono Gz49.size)
    have n52 := hbd0.size
    clear z49 Sz49 Gz49 hbd0
    go_wp2_with (first | go_skip | (refine wpList_load_row_w rfl 25 _ rfl w.heap.size rfl _ _ _ _ (Kx0.out _ (by first | assumption | exact (by assumption : Below _ w1 _).alloc (Below.size (by assumption)) _)) Try.underlying25 rfl (size_LAlg _ _) ?_) | (refine wpList_load_row_w rfl 28 _ rfl gS0 rfl _ _ _ _ (KS.out _ (by assumption)) Try.underlying28 rfl (size_Alg _ _) ?_) | (refine wpList_load_row_w rfl 28 _ rfl gG0 rfl _ _ _ _ (KG.out _ (by assumption)) Try.underlying28 rfl (size_Alg _ _) ?_))
    obtain ⟨vl0, vu0⟩ := wtA_le TI0.out.sm
    have nhg := Gz51.size
    refine (markAlgebra_G x1w.heap.size wI.heap.size _ _ _ _ _ _ VL0 VT0 (1) _ (HG0.out.below Gz51) (by omega) TI0.out.sm (by omega) (by omega)).mono ?_
    rintro e l0w ⟨rfl, MG0, ml0⟩
    have z53 := z51.trans (ml0.below (by omega) (by have := z51.size; omega))
    have Sz53 := Sz51.trans (ml0.below (by omega) (by have := Sz51.size; omega))
    have hxq := (ml0.block gG0 (lt_of_block (KG.out _ Gz51)) (.inr (by omega))).trans (KG.out _ Gz51)
    replace KG := Lib.hid (show ∀ wz, Below l0w.heap.size l0w wz → wz.heap[gG0]? = some (.cells #[.slice G0a G0n G0c, .slice G0b G0m G0d] 28 (0, 0)) from fun wz h => (h.block _ (lt_of_block hxq)).trans hxq)
    clear hxq
    replace MG0 := Lib.hid MG0
    have Gz53 : Below l0w.heap.size l0w l0w := Below.refl _ _
    clear z51 Sz51 Gz51 ml0
    have hq0 : ¬ 1 + wtA VL0 VT0 < 0 := by omega
    have hqb0 : decide (1 + wtA VL0 VT0 < 0) = false := decide_eq_false hq0
    have hqq : (1 + wtA VL0 VT0 != 1 + wtA VL0 VT0) = false := by simp
    go_wp2_with (first | go_skip | (refine wpList_load_row_w rfl 25 _ rfl w.heap.size rfl _ _ _ _ (Kx0.out _ (by first | assumption | exact (by assumption : Below _ w1 _).alloc (Below.size (by assumption)) _)) Try.underlying25 rfl (size_LAlg _ _) ?_) | (refine wpList_load_row_w rfl 28 _ rfl gS0 rfl _ _ _ _ (KS.out _ (by assumption)) Try.underlying28 rfl (size_Alg _ _) ?_) | (refine wpList_load_row_w rfl 28 _ rfl gG0 rfl _ _ _ _ (KG.out _ (by assumption)) Try.underlying28 rfl (size_Alg _ _) ?_))
    refine (heldAlgebra_G _ _ _ _ _ _ VL0 VT0 (1) _ (MG0.out.below Gz53) TI0.out (by omega) (by omega)).mono ?_
    rintro e p0w ⟨rfl, hbp0⟩
    have z54 := z53.trans (hbp0.mono z53.size)
    have Sz54 := Sz53.trans (hbp0.mono Sz53.size)
    have Gz54 := Gz53.trans (hbp0.mono Gz53.size)
    have n55 := hbp0.size
    clear z53 Sz53 Gz53 hbp0
    go_wp2_with (first | go_skip | (refine wpList_load_row_w rfl 25 _ rfl w.heap.size rfl _ _ _ _ (Kx0.out _ (by first | assumption | exact (by assumption : Below _ w1 _).alloc (Below.size (by assumption)) _)) Try.underlying25 rfl (size_LAlg _ _) ?_) | (refine wpList_load_row_w rfl 28 _ rfl gS0 rfl _ _ _ _ (KS.out _ (by assumption)) Try.underlying28 rfl (size_Alg _ _) ?_) | (refine wpList_load_row_w rfl 28 _ rfl gG0 rfl _ _ _ _ (KG.out _ (by assumption)) Try.underlying28 rfl (size_Alg _ _) ?_))
    refine (toAlgebra_G _ _ _ _ L0 T0 _ (HR0.out.below z54) (HT0.out.below z54) Sm0.out).mono ?_
    rintro e o0w ⟨o0a, o0n, o0c, o0b, o0m, o0d, rfl, go0, hbo0⟩
    have z56 := z54.trans (hbo0.mono z54.size)
    have Sz56 := Sz54.trans (hbo0.mono Sz54.size)
    have Gz56 := Gz54.trans (hbo0.mono Gz54.size)
    have n57 := hbo0.size
    clear hbo0
    go_wp2_with (first | go_skip | (refine wpList_load_row_w rfl 25 _ rfl w.heap.size rfl _ _ _ _ (Kx0.out _ (by first | assumption | exact (by assumption : Below _ w1 _).alloc (Below.size (by assumption)) _)) Try.underlying25 rfl (size_LAlg _ _) ?_) | (refine wpList_load_row_w rfl 28 _ rfl gS0 rfl _ _ _ _ (KS.out _ (by assumption)) Try.underlying28 rfl (size_Alg _ _) ?_) | (refine wpList_load_row_w rfl 28 _ rfl gG0 rfl _ _ _ _ (KG.out _ (by assumption)) Try.underlying28 rfl (size_Alg _ _) ?_))
    refine (toIntS_G _ _ L1 _ (HR1.out.below z56) hs1).mono ?_
    rintro e o1w ⟨o1a, o1n, o1c, rfl, go1, hbo1⟩
    have z58 := z56.trans (hbo1.mono z56.size)
    have Sz58 := Sz56.trans (hbo1.mono Sz56.size)
    have Gz58 := Gz56.trans (hbo1.mono Gz56.size)
    have n59 := hbo1.size
    replace go0 := go0.below hbo1
    clear hbo1
    go_wp2_with (first | go_skip | (refine wpList_load_row_w rfl 25 _ rfl w.heap.size rfl _ _ _ _ (Kx0.out _ (by first | assumption | exact (by assumption : Below _ w1 _).alloc (Below.size (by assumption)) _)) Try.underlying25 rfl (size_LAlg _ _) ?_) | (refine wpList_load_row_w rfl 28 _ rfl gS0 rfl _ _ _ _ (KS.out _ (by assumption)) Try.underlying28 rfl (size_Alg _ _) ?_) | (refine wpList_load_row_w rfl 28 _ rfl gG0 rfl _ _ _ _ (KG.out _ (by assumption)) Try.underlying28 rfl (size_Alg _ _) ?_))
    refine (HI.out _ _ _ _ _ _ _ _ _ _ go0.rd go1.rd).mono ?_
    rintro e wH ⟨H0a, H0n, H0c, H0b, H0m, H0d, rfl, H0g, hbH⟩
    have z60 := z58.trans (hbH.mono z58.size)
    have Sz60 := Sz58.trans (hbH.mono Sz58.size)
    have Gz60 := Gz58.trans (hbH.mono Gz58.size)
    have n61 := hbH.size
    clear hbH go0 go1
    go_wp2_with (first | go_skip | (refine wpList_store_row rfl 28 _ _ rfl wH.heap.size #[.slice H0a H0n H0c, .slice H0b H0m H0d] rfl rfl _ _ (heap_alloc_new wH (.cells #[.slice none 0 0, .slice none 0 0] 28)) (size_Alg _ _) rfl (one_sl2 _ _ _ _ _ _) ?_; rw [World.setRow_alloc_new]; obtain ⟨gH0, hgH0⟩ : ∃ g, g = wH.heap.size := ⟨_, rfl⟩; obtain ⟨wHb, hwHb⟩ : ∃ x, x = wH.alloc (.cells #[.slice H0a H0n H0c, .slice H0b H0m H0d] 28) := ⟨_, rfl⟩; rw [← hwHb, ← hgH0]; have hbwHb : Below wH.heap.size wH wHb := (by rw [hwHb]; exact (Below.refl _ _).alloc (Nat.le_refl _) _); have hxgH0 : wHb.heap[gH0]? = some (.cells #[.slice H0a H0n H0c, .slice H0b H0m H0d] 28 (0, 0)) := (by rw [hwHb, hgH0]; exact heap_alloc_new wH _); have ngH0 : wH.heap.size ≤ gH0 := Nat.le_of_eq hgH0.symm; have mgH0 : gH0 < wHb.heap.size := lt_of_block hxgH0; have KH := Lib.hid (show ∀ wz, Below wHb.heap.size wHb wz → wz.heap[gH0]? = some (.cells #[.slice H0a H0n H0c, .slice H0b H0m H0d] 28 (0, 0)) from fun wz h => (h.block _ (lt_of_block hxgH0)).trans hxgH0); clear hwHb hgH0 hxgH0; have z62 := z60.trans (hbwHb.mono z60.size); have Sz62 := Sz60.trans (hbwHb.mono Sz60.size); have Gz62 := Gz60.trans (hbwHb.mono Gz60.size); have Hz0 : Below wHb.heap.size wHb wHb := Below.refl _ _) | (refine wpList_load_row_w rfl 25 _ rfl w.heap.size rfl _ _ _ _ (Kx0.out _ (by first | assumption | exact (by assumption : Below _ w1 _).alloc (Below.size (by assumption)) _)) Try.underlying25 rfl (size_LAlg _ _) ?_) | (refine wpList_load_row_w rfl 28 _ rfl gS0 rfl _ _ _ _ (KS.out _ (by assumption)) Try.underlying28 rfl (size_Alg _ _) ?_) | (refine wpList_load_row_w rfl 28 _ rfl gG0 rfl _ _ _ _ (KG.out _ (by assumption)) Try.underlying28 rfl (size_Alg _ _) ?_) | (refine wpList_load_row_w rfl 28 _ rfl gH0 rfl _ _ _ _ (KH.out _ (by assumption)) Try.underlying28 rfl (size_Alg _ _) ?_))
    have HH0 := Lib.hid (H0g.below hbwHb)
    clear H0g
    clear hbwHb
    refine (eqAlgebra_R _ _ _ _ VL0 VT0 _ (HH0.out.below Hz0).rd (HS0.out.below Sz62) TI0.out.sm).mono ?_
    rintro e r0w ⟨rfl, hbr0⟩
    have z63 := z62.trans (hbr0.mono z62.size)
    have Sz63 := Sz62.trans (hbr0.mono Sz62.size)
    have Gz63 := Gz62.trans (hbr0.mono Gz62.size)
    have Hz63 := Hz0.trans (hbr0.mono Hz0.size)
    have n64 := hbr0.size
    clear z62 Sz62 Gz62 Hz0 hbr0
    go_wp2_with (first | go_skip | (refine wpList_load_row_w rfl 25 _ rfl w.heap.size rfl _ _ _ _ (Kx0.out _ (by first | assumption | exact (by assumption : Below _ w1 _).alloc (Below.size (by assumption)) _)) Try.underlying25 rfl (size_LAlg _ _) ?_) | (refine wpList_load_row_w rfl 28 _ rfl gS0 rfl _ _ _ _ (KS.out _ (by assumption)) Try.underlying28 rfl (size_Alg _ _) ?_) | (refine wpList_load_row_w rfl 28 _ rfl gG0 rfl _ _ _ _ (KG.out _ (by assumption)) Try.underlying28 rfl (size_Alg _ _) ?_) | (refine wpList_load_row_w rfl 28 _ rfl gH0 rfl _ _ _ _ (KH.out _ (by assumption)) Try.underlying28 rfl (size_Alg _ _) ?_))
    go_wp2_with (first | go_skip | (refine wpList_load_row_w rfl 25 _ rfl w.heap.size rfl _ _ _ _ (Kx0.out _ (by first | assumption | exact (by assumption : Below _ w1 _).alloc (Below.size (by assumption)) _)) Try.underlying25 rfl (size_LAlg _ _) ?_) | (refine wpList_load_row_w rfl 28 _ rfl gS0 rfl _ _ _ _ (KS.out _ (by assumption)) Try.underlying28 rfl (size_Alg _ _) ?_) | (refine wpList_load_row_w rfl 28 _ rfl gG0 rfl _ _ _ _ (KG.out _ (by assumption)) Try.underlying28 rfl (size_Alg _ _) ?_))
    refine (heldAlgebra_G _ _ _ _ _ _ VL0 VT0 (1) _ (MG0.out.below Gz63) TI0.out (by omega) (by omega)).mono ?_
    rintro e u0w ⟨rfl, hbu0⟩
    have z65 := z63.trans (hbu0.mono z63.size)
    have Sz65 := Sz63.trans (hbu0.mono Sz63.size)
    have Gz65 := Gz63.trans (hbu0.mono Gz63.size)
    have Hz65 := Hz63.trans (hbu0.mono Hz63.size)
    have n66 := hbu0.size
    clear z63 Sz63 Gz63 Hz63 hbu0
    go_wp2
    go_ret
    exact ⟨rfl, hB.trans (z65.mono hB.size)⟩
end Go.Proofs.Ytmapofenghjinaa
