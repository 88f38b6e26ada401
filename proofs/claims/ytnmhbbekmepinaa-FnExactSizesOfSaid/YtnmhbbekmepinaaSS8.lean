import Derived.Test.YtnmhbbekmepinaaSS7
import Derived.Test.YtnmhbbekmepinaaL6
import Derived.Test.YtnmhbbekmepinaaD3
namespace Go.Proofs.Ytnmhbbekmepinaa
open Go.RowKit
set_option maxRecDepth 100000 in
set_option maxHeartbeats 8000000 in
/-- the law -/
theorem lawSizesOf (a0 b0 : Option Addr) (ca0 cb0 : Nat) (L0 : List Int) (T0 : List (List Int)) (w : World) (hr0 : Rd w a0 L0) (ht0 : RdT w b0 T0) (hL0 : L0.length ≤ maxLen) (hn0 : T0.length ≤ maxLen) (hm0 : ∀ j : Nat, j < T0.length → (rowAt T0 j).length ≤ maxLen) :
    Calls Try.prog 8 #[.agg #[.slice a0 L0.length ca0, .slice b0 T0.length cb0]] w fun e w' => e = .returned (.bool true) ∧ Below w.heap.size w w' := by
  unfold maxLen at *
  have HM0 := Lib.hid (show ∀ j : Nat, j < T0.length → ((rowAt T0 j).length : Int) ≤ 9223372036854775807 from fun j hj => by have := hm0 j hj; omega)
  have hLL0 : (L0.length : Int) ≤ 9223372036854775807 := by omega
  have hnn0 : (T0.length : Int) ≤ 9223372036854775807 := by omega
  obtain ⟨w1, hw1⟩ : ∃ w1, w1 = (w.alloc (.cells #[.slice a0 L0.length ca0, .slice b0 T0.length cb0] 25)) := ⟨_, rfl⟩
  have hB : Below w.heap.size w w1 := by rw [hw1]; exact ((Below.refl _ _).alloc (Nat.le_refl _) _)
  have hx0 : w1.heap[w.heap.size]? = some (.cells #[.slice a0 L0.length ca0, .slice b0 T0.length cb0] 25 (0, 0)) := by rw [hw1]; exact heap_alloc_new w _
  have Kx0 := Lib.hid (show ∀ wz, Below w1.heap.size w1 wz → wz.heap[w.heap.size]? = some (.cells #[.slice a0 L0.length ca0, .slice b0 T0.length cb0] 25 (0, 0)) from fun wz h => (h.block _ (lt_of_block hx0)).trans hx0)
  have HR0 := Lib.hid (hr0.below hB)
  have HT0 := Lib.hid (ht0.below hB)
  have z0 : Below w1.heap.size w1 w1 := Below.refl _ _
  have TI0 : (sqL L0 T0).length ≤ 1024 := (by have := sqL_len L0 T0; omega)
  obtain ⟨V0, hV0⟩ : ∃ V, V = sqL L0 T0 := ⟨_, rfl⟩
  rw [← hV0] at TI0
  obtain ⟨V1, hV1⟩ : ∃ V, V = sqB L0 T0 := ⟨_, rfl⟩
  have hne1 : (V1 != V1) = false := by simp
  have HS := Lib.hid (show ∀ (a0 : Option Addr) (n0 c0 : Nat) (b0 : Option Addr) (m0 d0 : Nat) (w : World), RA w (.slice a0 n0 c0) (.slice b0 m0 d0) L0 T0 → Calls Try.prog 44 #[.agg #[.slice a0 n0 c0, .slice b0 m0 d0]] w (RetSsb V0 V1 w) from fun a0 n0 c0 b0 m0 d0 w h0 => by obtain ⟨xa0, xc0, xb0, xd0, e0, f0, r0, t0⟩ := h0; rw [e0, f0, hV0, hV1]; exact specSizesOf_any xa0 xb0 xc0 xd0 L0 T0 w r0 t0 )
  have HI := Lib.hid (show ∀ (a0 : Option Addr) (n0 c0 : Nat) (b0 : Option Addr) (m0 d0 : Nat) (w : World), RA w (.slice a0 n0 c0) (.slice b0 m0 d0) L0 T0 → Calls Try.prog 45 #[.agg #[.slice a0 n0 c0, .slice b0 m0 d0]] w (RetGsb V0 V1 w) from fun a0 n0 c0 b0 m0 d0 w h0 => by obtain ⟨xa0, xc0, xb0, xd0, e0, f0, r0, t0⟩ := h0; rw [e0, f0, hV0, hV1]; exact implSizesOf_any xa0 xb0 xc0 xd0 L0 T0 w r0 t0 )
  clear hV0 hV1 hm0 ht0 hx0 hr0
  go_enter Try.func8, Try.ntmps8
  go_wp2_with (first | (rw [← hw1]; clear hw1) | (refine wpList_load_row_w rfl 25 _ rfl w.heap.size rfl _ _ _ _ (Kx0.out _ (by first | assumption | exact (by assumption : Below _ w1 _).alloc (Below.size (by assumption)) _)) Try.underlying25 rfl (size_LAlg _ _) ?_))
  refine (szAlgebra_any _ _ _ _ L0 T0 1048576 _ (HT0.out.below z0) (by omega) (by omega) hLL0 HM0.out hnn0).mono ?_
  rintro e s0w ⟨⟨v0, rfl, p0, q0, r0⟩, hbs0⟩
  have z21 := z0.trans (hbs0.mono z0.size)
  have n22 := hbs0.size
  clear z0 hbs0
  by_cases hv0 : v0 < 0
  · go_wp2
    go_ret
    exact ⟨rfl, hB.trans (z21.mono hB.size)⟩
  obtain ⟨s1, s2, s3⟩ := r0 (by omega)
  have Sm0 := Lib.hid (show Sm L0 T0 from ⟨by omega, by omega, fun j hj => by have := s3 j hj; omega⟩)
  obtain ⟨wl0, wu0⟩ := wtA_le Sm0.out
  clear s1 s2 s3 r0
  go_wp2_with (first | go_skip | (refine wpList_load_row_w rfl 25 _ rfl w.heap.size rfl _ _ _ _ (Kx0.out _ (by first | assumption | exact (by assumption : Below _ w1 _).alloc (Below.size (by assumption)) _)) Try.underlying25 rfl (size_LAlg _ _) ?_))
  refine (toAlgebra_G _ _ _ _ L0 T0 _ (HR0.out.below z21) (HT0.out.below z21) Sm0.out).mono ?_
  rintro e m0w ⟨m0a, m0n, m0c, m0b, m0m, m0d, rfl, gm0, hbm0⟩
  have z23 := z21.trans (hbm0.mono z21.size)
  have n24 := hbm0.size
  clear hbm0
  go_wp2_with (first | go_skip | (refine wpList_load_row_w rfl 25 _ rfl w.heap.size rfl _ _ _ _ (Kx0.out _ (by first | assumption | exact (by assumption : Below _ w1 _).alloc (Below.size (by assumption)) _)) Try.underlying25 rfl (size_LAlg _ _) ?_))
  refine (HS.out _ _ _ _ _ _ _ gm0.rd).mono ?_
  rintro e wS ⟨S0a, S0n, S0c, rfl, S0g, hbS⟩
  have z25 := z23.trans (hbS.mono z23.size)
  have n26 := hbS.size
  clear hbS gm0
  have Sz0 : Below wS.heap.size wS wS := Below.refl _ _
  go_wp2_with (first | go_skip | (refine wpList_load_row_w rfl 25 _ rfl w.heap.size rfl _ _ _ _ (Kx0.out _ (by first | assumption | exact (by assumption : Below _ w1 _).alloc (Below.size (by assumption)) _)) Try.underlying25 rfl (size_LAlg _ _) ?_))
  have HS0 := Lib.hid (S0g)
  clear S0g
  have nlo0 : w1.heap.size ≤ wS.heap.size := z25.size
  refine (toAlgebra_G _ _ _ _ L0 T0 _ (HR0.out.below z25) (HT0.out.below z25) Sm0.out).mono ?_
  rintro e x0w ⟨x0a, x0n, x0c, x0b, x0m, x0d, rfl, gx0, hbx0⟩
  have z27 := z25.trans (hbx0.mono z25.size)
  have Sz27 := Sz0.trans (hbx0.mono Sz0.size)
  have n28 := hbx0.size
  clear hbx0
  go_wp2_with (first | go_skip | (obtain ⟨bx0, hbx0⟩ : ∃ g, g = x0w.heap.size := ⟨_, rfl⟩; obtain ⟨X0w, hX0w⟩ : ∃ x, x = x0w.alloc (.cells #[.slice x0a x0n x0c, .slice x0b x0m x0d] 27) := ⟨_, rfl⟩; rw [← hX0w, ← hbx0]; have hbX0w : Below x0w.heap.size x0w X0w := (by rw [hX0w]; exact (Below.refl _ _).alloc (Nat.le_refl _) _); have hxbx0 : X0w.heap[bx0]? = some (.cells #[.slice x0a x0n x0c, .slice x0b x0m x0d] 27 (0, 0)) := (by rw [hX0w, hbx0]; exact heap_alloc_new x0w _); have nbx0 : x0w.heap.size ≤ bx0 := Nat.le_of_eq hbx0.symm; have mbx0 : bx0 < X0w.heap.size := lt_of_block hxbx0; have KX0 := Lib.hid (show ∀ wz, Below X0w.heap.size X0w wz → wz.heap[bx0]? = some (.cells #[.slice x0a x0n x0c, .slice x0b x0m x0d] 27 (0, 0)) from fun wz h => (h.block _ (lt_of_block hxbx0)).trans hxbx0); clear hX0w hbx0 hxbx0; have GX0 := Lib.hid (gx0.below hbX0w); clear gx0; have z29 := z27.trans (hbX0w.mono z27.size); have Sz29 := Sz27.trans (hbX0w.mono Sz27.size); have n30 := hbX0w.size; clear z27 Sz27 hbX0w; have y0z0 : Below X0w.heap.size X0w X0w := Below.refl _ _) | (refine wpList_load_row_w rfl 25 _ rfl w.heap.size rfl _ _ _ _ (Kx0.out _ (by first | assumption | exact (by assumption : Below _ w1 _).alloc (Below.size (by assumption)) _)) Try.underlying25 rfl (size_LAlg _ _) ?_) | (refine wpList_load_row_w rfl 27 _ rfl bx0 rfl _ _ _ _ (KX0.out _ (by assumption)) Try.underlying27 rfl (size_Alg _ _) ?_))
  have nlg : w1.heap.size ≤ X0w.heap.size := z29.size
  refine (HI.out _ _ _ _ _ _ _ (GX0.out.below y0z0).rd).mono ?_
  rintro e wI ⟨G0a, G0n, G0c, rfl, G0g, hbG⟩
  have z31 := z29.trans (hbG.mono z29.size)
  have Sz31 := Sz29.trans (hbG.mono Sz29.size)
  have y0z31 := y0z0.trans (hbG.mono y0z0.size)
  have n32 := hbG.size
  clear hbG
  have Gz0 : Below wI.heap.size wI wI := Below.refl _ _
  go_wp2_with (first | go_skip | (refine wpList_load_row_w rfl 25 _ rfl w.heap.size rfl _ _ _ _ (Kx0.out _ (by first | assumption | exact (by assumption : Below _ w1 _).alloc (Below.size (by assumption)) _)) Try.underlying25 rfl (size_LAlg _ _) ?_) | (refine wpList_load_row_w rfl 27 _ rfl bx0 rfl _ _ _ _ (KX0.out _ (by assumption)) Try.underlying27 rfl (size_Alg _ _) ?_))
  have HG0 := Lib.hid (G0g)
  clear G0g
  refine (eqIntS_R _ _ V0 _ (HG0.out.below Gz0).rd (HS0.out.below Sz31) (by omega)).mono ?_
  rintro e c0w ⟨rfl, hbc0⟩
  have z33 := z31.trans (hbc0.mono z31.size)
  have Sz33 := Sz31.trans (hbc0.mono Sz31.size)
  have y0z33 := y0z31.trans (hbc0.mono y0z31.size)
  have Gz33 := Gz0.trans (hbc0.mono Gz0.size)
  have n34 := hbc0.size
  clear z31 Sz31 y0z31 Gz0 hbc0
  go_wp2_with (first | go_skip | (refine wpList_load_row_w rfl 25 _ rfl w.heap.size rfl _ _ _ _ (Kx0.out _ (by first | assumption | exact (by assumption : Below _ w1 _).alloc (Below.size (by assumption)) _)) Try.underlying25 rfl (size_LAlg _ _) ?_) | (refine wpList_load_row_w rfl 27 _ rfl bx0 rfl _ _ _ _ (KX0.out _ (by assumption)) Try.underlying27 rfl (size_Alg _ _) ?_))
  obtain ⟨c0, c1⟩ := bxL_cells (Kx0.out _ z33)
  obtain ⟨d0, d1⟩ := bx_cells (KX0.out _ y0z33)
  go_wp2
  go_region_with (first
    | (go_at_call 18; refine (toAlgebra_G _ _ _ _ L0 T0 _ (HR0.out.below z33.drew) (HT0.out.below z33.drew) Sm0.out).mono ?_; rintro e e0w ⟨e0a, e0n, e0c, e0b, e0m, e0d, rfl, ge0, hbe0⟩; have z35 := z33.drew.trans (hbe0.mono z33.drew.size); have Sz35 := Sz33.drew.trans (hbe0.mono Sz33.drew.size); have y0z35 := y0z33.drew.trans (hbe0.mono y0z33.drew.size); have Gz35 := Gz33.drew.trans (hbe0.mono Gz33.drew.size); obtain ⟨e0, e1⟩ := bx_cells (KX0.out _ y0z35))
    | (go_at_call 20; refine (eqAlgebra_R _ _ _ _ L0 T0 _ (GX0.out.below y0z35).rd ge0.rd Sm0.out).mono ?_; rintro e f0w ⟨rfl, hbf0⟩; have z36 := z35.trans (hbf0.mono z35.size); have Sz36 := Sz35.trans (hbf0.mono Sz35.size); have y0z36 := y0z35.trans (hbf0.mono y0z35.size); have Gz36 := Gz35.trans (hbf0.mono Gz35.size)))
  all_goals
    clear c0 c1 d0 d1 e0 e1 ge0 hbe0 hbf0 z33 Sz33 y0z33 Gz33 z35 Sz35 y0z35 Gz35
    have nf0 := Gz36.size
    go_wp2_with (first | go_skip | (refine wpList_load_row_w rfl 25 _ rfl w.heap.size rfl _ _ _ _ (Kx0.out _ (by first | assumption | exact (by assumption : Below _ w1 _).alloc (Below.size (by assumption)) _)) Try.underlying25 rfl (size_LAlg _ _) ?_) | (refine wpList_load_row_w rfl 27 _ rfl bx0 rfl _ _ _ _ (KX0.out _ (by assumption)) Try.underlying27 rfl (size_Alg _ _) ?_))
    have nhi0 := y0z36.size
    refine (markAlgebra_G wS.heap.size x0w.heap.size _ _ _ _ _ _ L0 T0 (1) _ (GX0.out.below y0z36) (by omega) Sm0.out (by omega) (by omega)).mono ?_
    rintro e k0w ⟨rfl, _, mk0⟩
    have z37 := z36.trans (mk0.below (by omega) (by have := z36.size; omega))
    have Sz37 := Sz36.trans (mk0.below (by omega) (by have := Sz36.size; omega))
    replace HG0 := Lib.hid ((HG0.out.below Gz36).mid mk0 (by omega))
    have Gz37 : Below k0w.heap.size k0w k0w := Below.refl _ _
    have n38 := mk0.size
    clear z36 Sz36 y0z36 Gz36 mk0
    have hkx : ¬ 1 + wtA L0 T0 < 0 := by omega
    have hkb : decide (1 + wtA L0 T0 < 0) = false := decide_eq_false hkx
    go_wp2_with (first | go_skip | (refine wpList_load_row_w rfl 25 _ rfl w.heap.size rfl _ _ _ _ (Kx0.out _ (by first | assumption | exact (by assumption : Below _ w1 _).alloc (Below.size (by assumption)) _)) Try.underlying25 rfl (size_LAlg _ _) ?_))
    refine (eqIntS_R _ _ V0 _ (HG0.out.below Gz37).rd (HS0.out.below Sz37) (by omega)).mono ?_
    rintro e d0w ⟨rfl, hbd0⟩
    have z39 := z37.trans (hbd0.mono z37.size)
    have Sz39 := Sz37.trans (hbd0.mono Sz37.size)
    have Gz39 := Gz37.trans (hbd0.mono Gz37.size)
    have n40 := hbd0.size
    clear z37 Sz37 Gz37 hbd0
    go_wp2_with (first | go_skip | (refine wpList_load_row_w rfl 25 _ rfl w.heap.size rfl _ _ _ _ (Kx0.out _ (by first | assumption | exact (by assumption : Below _ w1 _).alloc (Below.size (by assumption)) _)) Try.underlying25 rfl (size_LAlg _ _) ?_))
    refine (markIntS_G _ _ _ V0 (1) _ (HG0.out.below Gz39) (by omega) (by omega) (by omega)).mono ?_
    rintro e l0w ⟨rfl, MG0, ml0⟩
    have z41 := z39.trans (ml0.below (by omega) (by have := z39.size; omega))
    have Sz41 := Sz39.trans (ml0.below (by omega) (by have := Sz39.size; omega))
    replace MG0 := Lib.hid MG0
    have Gz41 : Below l0w.heap.size l0w l0w := Below.refl _ _
    clear z39 Sz39 Gz39 ml0
    have hq0 : ¬ 1 + (V0.length : Int) < 0 := by omega
    have hqb0 : decide (1 + (V0.length : Int) < 0) = false := decide_eq_false hq0
    have hqq : (1 + (V0.length : Int) != 1 + (V0.length : Int)) = false := by simp
    go_wp2_with (first | go_skip | (refine wpList_load_row_w rfl 25 _ rfl w.heap.size rfl _ _ _ _ (Kx0.out _ (by first | assumption | exact (by assumption : Below _ w1 _).alloc (Below.size (by assumption)) _)) Try.underlying25 rfl (size_LAlg _ _) ?_))
    refine (heldIntS_G _ V0 (1) _ (MG0.out.below Gz41) (by omega) (by omega) (by omega)).mono ?_
    rintro e p0w ⟨rfl, hbp0⟩
    have z42 := z41.trans (hbp0.mono z41.size)
    have Sz42 := Sz41.trans (hbp0.mono Sz41.size)
    have Gz42 := Gz41.trans (hbp0.mono Gz41.size)
    have n43 := hbp0.size
    clear z41 Sz41 Gz41 hbp0
    go_wp2_with (first | go_skip | (refine wpList_load_row_w rfl 25 _ rfl w.heap.size rfl _ _ _ _ (Kx0.out _ (by first | assumption | exact (by assumption : Below _ w1 _).alloc (Below.size (by assumption)) _)) Try.underlying25 rfl (size_LAlg _ _) ?_))
    refine (toAlgebra_G _ _ _ _ L0 T0 _ (HR0.out.below z42) (HT0.out.below z42) Sm0.out).mono ?_
    rintro e o0w ⟨o0a, o0n, o0c, o0b, o0m, o0d, rfl, go0, hbo0⟩
    have z44 := z42.trans (hbo0.mono z42.size)
    have Sz44 := Sz42.trans (hbo0.mono Sz42.size)
    have Gz44 := Gz42.trans (hbo0.mono Gz42.size)
    have n45 := hbo0.size
    clear hbo0
    go_wp2_with (first | go_skip | (refine wpList_load_row_w rfl 25 _ rfl w.heap.size rfl _ _ _ _ (Kx0.out _ (by first | assumption | exact (by assumption : Below _ w1 _).alloc (Below.size (by assumption)) _)) Try.underlying25 rfl (size_LAlg _ _) ?_))
    refine (HI.out _ _ _ _ _ _ _ go0.rd).mono ?_
    rintro e wH ⟨H0a, H0n, H0c, rfl, H0g, hbH⟩
    have z46 := z44.trans (hbH.mono z44.size)
    have Sz46 := Sz44.trans (hbH.mono Sz44.size)
    have Gz46 := Gz44.trans (hbH.mono Gz44.size)
    have n47 := hbH.size
    clear hbH go0
    have Hz0 : Below wH.heap.size wH wH := Below.refl _ _
    go_wp2_with (first | go_skip | (refine wpList_load_row_w rfl 25 _ rfl w.heap.size rfl _ _ _ _ (Kx0.out _ (by first | assumption | exact (by assumption : Below _ w1 _).alloc (Below.size (by assumption)) _)) Try.underlying25 rfl (size_LAlg _ _) ?_))
    have HH0 := Lib.hid (H0g)
    clear H0g
    refine (eqIntS_R _ _ V0 _ (HH0.out.below Hz0).rd (HS0.out.below Sz46) (by omega)).mono ?_
    rintro e r0w ⟨rfl, hbr0⟩
    have z48 := z46.trans (hbr0.mono z46.size)
    have Sz48 := Sz46.trans (hbr0.mono Sz46.size)
    have Gz48 := Gz46.trans (hbr0.mono Gz46.size)
    have Hz48 := Hz0.trans (hbr0.mono Hz0.size)
    have n49 := hbr0.size
    clear z46 Sz46 Gz46 Hz0 hbr0
    go_wp2_with (first | go_skip | (refine wpList_load_row_w rfl 25 _ rfl w.heap.size rfl _ _ _ _ (Kx0.out _ (by first | assumption | exact (by assumption : Below _ w1 _).alloc (Below.size (by assumption)) _)) Try.underlying25 rfl (size_LAlg _ _) ?_))
    go_wp2_with (first | go_skip | (refine wpList_load_row_w rfl 25 _ rfl w.heap.size rfl _ _ _ _ (Kx0.out _ (by first | assumption | exact (by assumption : Below _ w1 _).alloc (Below.size (by assumption)) _)) Try.underlying25 rfl (size_LAlg _ _) ?_))
    refine (heldIntS_G _ V0 (1) _ (MG0.out.below Gz48) (by omega) (by omega) (by omega)).mono ?_
    rintro e u0w ⟨rfl, hbu0⟩
    have z50 := z48.trans (hbu0.mono z48.size)
    have Sz50 := Sz48.trans (hbu0.mono Sz48.size)
    have Gz50 := Gz48.trans (hbu0.mono Gz48.size)
    have Hz50 := Hz48.trans (hbu0.mono Hz48.size)
    have n51 := hbu0.size
    clear z48 Sz48 Gz48 Hz48 hbu0
    go_wp2
    go_ret
    exact ⟨rfl, hB.trans (z50.mono hB.size)⟩
end Go.Proofs.Ytnmhbbekmepinaa
