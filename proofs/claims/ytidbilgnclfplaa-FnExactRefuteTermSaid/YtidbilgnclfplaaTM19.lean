import Derived.Test.YtidbilgnclfplaaTM18
import Derived.Test.YtidbilgnclfplaaY1
import Derived.Test.YtidbilgnclfplaaD3
import Derived.Test.YtidbilgnclfplaaL6
namespace Go.Proofs.Ytidbilgnclfplaa
open Go.RowKit
theorem rfI_len (L : List Int) (T : List (List Int)) (t : List Int) : ((rfI L T t).getD []).length ≤ 1024 := by
  unfold rfI
  split
  · cases h : f3 L.length (fun N => !(hdB L T t N)) with
    | none => exact Nat.zero_le _
    | some v => obtain ⟨x, y, z, _, _, _, _, _, _, e, _⟩ := f3_is h; rw [e]; exact Nat.le_of_ble_eq_true rfl
  · exact Nat.zero_le _
set_option maxRecDepth 100000 in
set_option maxHeartbeats 8000000 in
/-- the law -/
theorem lawRefuteTerm (a0 b0 : Option Addr) (ca0 cb0 : Nat) (L0 : List Int) (T0 : List (List Int)) (a1 : Option Addr) (ca1 : Nat) (L1 : List Int) (w : World) (hr0 : Rd w a0 L0) (ht0 : RdT w b0 T0) (hL0 : L0.length ≤ maxLen) (hn0 : T0.length ≤ maxLen) (hm0 : ∀ j : Nat, j < T0.length → (rowAt T0 j).length ≤ maxLen) (hr1 : Rd w a1 L1) (hL1 : L1.length ≤ maxLen) :
    Calls Try.prog 5 #[.agg #[.slice a0 L0.length ca0, .slice b0 T0.length cb0], .slice a1 L1.length ca1] w fun e w' => e = .returned (.bool true) ∧ Below w.heap.size w w' := by
  unfold maxLen at *
  have HM0 := Lib.hid (show ∀ j : Nat, j < T0.length → ((rowAt T0 j).length : Int) ≤ 9223372036854775807 from fun j hj => by have := hm0 j hj; omega)
  have hLL0 : (L0.length : Int) ≤ 9223372036854775807 := by omega
  have hnn0 : (T0.length : Int) ≤ 9223372036854775807 := by omega
  obtain ⟨w1, hw1⟩ : ∃ w1, w1 = (w.alloc (.cells #[.slice a0 L0.length ca0, .slice b0 T0.length cb0] 30)) := ⟨_, rfl⟩
  have hB : Below w.heap.size w w1 := by rw [hw1]; exact ((Below.refl _ _).alloc (Nat.le_refl _) _)
  have hx0 : w1.heap[w.heap.size]? = some (.cells #[.slice a0 L0.length ca0, .slice b0 T0.length cb0] 30 (0, 0)) := by rw [hw1]; exact heap_alloc_new w _
  have Kx0 := Lib.hid (show ∀ wz, Below w1.heap.size w1 wz → wz.heap[w.heap.size]? = some (.cells #[.slice a0 L0.length ca0, .slice b0 T0.length cb0] 30 (0, 0)) from fun wz h => (h.block _ (lt_of_block hx0)).trans hx0)
  have HR0 := Lib.hid (hr0.below hB)
  have HT0 := Lib.hid (ht0.below hB)
  have HR1 := Lib.hid (hr1.below hB)
  have z0 : Below w1.heap.size w1 w1 := Below.refl _ _
  by_cases hb1 : 1048576 < L1.length
  · have hc1 : (1048576 : Int) < (L1.length : Int) := by omega
    go_enter Try.func5, Try.ntmps5
    go_wp2_with (rw [← hw1]; clear hw1)
    go_ret
    exact ⟨rfl, hB⟩
  have hs1 : L1.length ≤ 1048576 := by omega
  have hss1 : (L1.length : Int) ≤ 1048576 := by omega
  clear hb1
  have TI0 : ((rfI L0 T0 L1).getD []).length ≤ 1024 := rfI_len L0 T0 L1
  obtain ⟨V0, hV0⟩ : ∃ V, V = (rfI L0 T0 L1).getD [] := ⟨_, rfl⟩
  rw [← hV0] at TI0
  obtain ⟨V1, hV1⟩ : ∃ V, V = (rfI L0 T0 L1).isSome := ⟨_, rfl⟩
  have hne1 : (V1 != V1) = false := by simp
  have HS := Lib.hid (show ∀ (a0 : Option Addr) (n0 c0 : Nat) (b0 : Option Addr) (m0 d0 : Nat) (a1 : Option Addr) (n1 c1 : Nat) (w : World), RA w (.slice a0 n0 c0) (.slice b0 m0 d0) L0 T0 → RS w (.slice a1 n1 c1) L1 → Calls Try.prog 27 #[.agg #[.slice a0 n0 c0, .slice b0 m0 d0], .slice a1 n1 c1] w (RetSsb V0 V1 w) from fun a0 n0 c0 b0 m0 d0 a1 n1 c1 w h0 h1 => by obtain ⟨xa0, xc0, xb0, xd0, e0, f0, r0, t0⟩ := h0; obtain ⟨xa1, xc1, e1, r1⟩ := h1; rw [e0, f0, e1, hV0, hV1]; exact specRefuteTerm_any xa0 xb0 xc0 xd0 L0 T0 xa1 xc1 L1 w r0 t0 r1 hs1)
  have HI := Lib.hid (show ∀ (a0 : Option Addr) (n0 c0 : Nat) (b0 : Option Addr) (m0 d0 : Nat) (a1 : Option Addr) (n1 c1 : Nat) (w : World), RA w (.slice a0 n0 c0) (.slice b0 m0 d0) L0 T0 → RSc w (.slice a1 n1 c1) L1 → Calls Try.prog 28 #[.agg #[.slice a0 n0 c0, .slice b0 m0 d0], .slice a1 n1 c1] w (RetGsb V0 V1 w) from fun a0 n0 c0 b0 m0 d0 a1 n1 c1 w h0 h1 => by obtain ⟨xa0, xc0, xb0, xd0, e0, f0, r0, t0⟩ := h0; obtain ⟨xa1, xc1, e1, r1, k1⟩ := h1; rw [e0, f0, e1, hV0, hV1]; exact implRefuteTerm_any xa0 xb0 xc0 xd0 L0 T0 xa1 xc1 L1 w r0 t0 r1 hs1 k1)
  clear hV0 hV1 hm0 ht0 hx0 hr0 hr1
  go_enter Try.func5, Try.ntmps5
  go_wp2_with (first | (rw [← hw1]; clear hw1) | (refine wpList_load_row_w rfl 30 _ rfl w.heap.size rfl _ _ _ _ (Kx0.out _ (by first | assumption | exact (by assumption : Below _ w1 _).alloc (Below.size (by assumption)) _)) Try.underlying30 rfl (size_LAlg _ _) ?_))
  refine (szAlgebra_any _ _ _ _ L0 T0 1048576 _ (HT0.out.below z0) (by omega) (by omega) hLL0 HM0.out hnn0).mono ?_
  rintro e s0w ⟨⟨v0, rfl, p0, q0, r0⟩, hbs0⟩
  have z21 := z0.trans (hbs0.mono z0.size)
  have n22 := hbs0.size
  clear z0 hbs0
  by_cases hv0 : v0 < 0
  · go_wp2
    go_ret
    exact ⟨rfl, hB.trans (z21.mono hB.size)⟩
  obtain ⟨s1, s2, s3⟩ := r0 (by omega)
  have Sm0 := Lib.hid (show Sm L0 T0 from ⟨by omega, by omega, fun j hj => by have := s3 j hj; omega⟩)
  obtain ⟨wl0, wu0⟩ := wtA_le Sm0.out
  clear s1 s2 s3 r0
  go_wp2_with (first | go_skip | (refine wpList_load_row_w rfl 30 _ rfl w.heap.size rfl _ _ _ _ (Kx0.out _ (by first | assumption | exact (by assumption : Below _ w1 _).alloc (Below.size (by assumption)) _)) Try.underlying30 rfl (size_LAlg _ _) ?_))
  refine (toAlgebra_G _ _ _ _ L0 T0 _ (HR0.out.below z21) (HT0.out.below z21) Sm0.out).mono ?_
  rintro e m0w ⟨m0a, m0n, m0c, m0b, m0m, m0d, rfl, gm0, hbm0⟩
  have z23 := z21.trans (hbm0.mono z21.size)
  have n24 := hbm0.size
  clear hbm0
  go_wp2_with (first | go_skip | (refine wpList_load_row_w rfl 30 _ rfl w.heap.size rfl _ _ _ _ (Kx0.out _ (by first | assumption | exact (by assumption : Below _ w1 _).alloc (Below.size (by assumption)) _)) Try.underlying30 rfl (size_LAlg _ _) ?_))
  refine (toIntS_G _ _ L1 _ (HR1.out.below z23) hs1).mono ?_
  rintro e m1w ⟨m1a, m1n, m1c, rfl, gm1, hbm1⟩
  have z25 := z23.trans (hbm1.mono z23.size)
  have n26 := hbm1.size
  replace gm0 := gm0.below hbm1
  clear hbm1
  go_wp2_with (first | go_skip | (refine wpList_load_row_w rfl 30 _ rfl w.heap.size rfl _ _ _ _ (Kx0.out _ (by first | assumption | exact (by assumption : Below _ w1 _).alloc (Below.size (by assumption)) _)) Try.underlying30 rfl (size_LAlg _ _) ?_))
  refine (HS.out _ _ _ _ _ _ _ _ _ _ gm0.rd gm1.rd).mono ?_
  rintro e wS ⟨S0a, S0n, S0c, rfl, S0g, hbS⟩
  have z27 := z25.trans (hbS.mono z25.size)
  have n28 := hbS.size
  clear hbS gm0 gm1
  have Sz0 : Below wS.heap.size wS wS := Below.refl _ _
  go_wp2_with (first | go_skip | (refine wpList_load_row_w rfl 30 _ rfl w.heap.size rfl _ _ _ _ (Kx0.out _ (by first | assumption | exact (by assumption : Below _ w1 _).alloc (Below.size (by assumption)) _)) Try.underlying30 rfl (size_LAlg _ _) ?_))
  have HS0 := Lib.hid (S0g)
  clear S0g
  have nlo0 : w1.heap.size ≤ wS.heap.size := z27.size
  refine (toAlgebra_G _ _ _ _ L0 T0 _ (HR0.out.below z27) (HT0.out.below z27) Sm0.out).mono ?_
  rintro e x0w ⟨x0a, x0n, x0c, x0b, x0m, x0d, rfl, gx0, hbx0⟩
  have z29 := z27.trans (hbx0.mono z27.size)
  have Sz29 := Sz0.trans (hbx0.mono Sz0.size)
  have n30 := hbx0.size
  clear hbx0
  go_wp2_with (first | go_skip | (refine wpList_load_row_w rfl 30 _ rfl w.heap.size rfl _ _ _ _ (Kx0.out _ (by first | assumption | exact (by assumption : Below _ w1 _).alloc (Below.size (by assumption)) _)) Try.underlying30 rfl (size_LAlg _ _) ?_) | (refine wpList_load_row_w rfl 33 _ rfl bx0 rfl _ _ _ _ (KX0.out _ (by assumption)) Try.underlying33 rfl (size_Alg _ _) ?_))
  obtain ⟨bx0, hbx0⟩ : ∃ g, g = x0w.heap.size := ⟨_, rfl⟩
  obtain ⟨X0w, hX0w⟩ : ∃ x, x = x0w.alloc (.cells #[.slice x0a x0n x0c, .slice x0b x0m x0d] 33) := ⟨_, rfl⟩
  rw [← hX0w, ← hbx0]
  have hbX0w : Below x0w.heap.size x0w X0w := (by rw [hX0w]; exact (Below.refl _ _).alloc (Nat.le_refl _) _)
  have hxbx0 : X0w.heap[bx0]? = some (.cells #[.slice x0a x0n x0c, .slice x0b x0m x0d] 33 (0, 0)) := (by rw [hX0w, hbx0]; exact heap_alloc_new x0w _)
  have nbx0 : x0w.heap.size ≤ bx0 := Nat.le_of_eq hbx0.symm
  have mbx0 : bx0 < X0w.heap.size := lt_of_block hxbx0
  have KX0 := Lib.hid (show ∀ wz, Below X0w.heap.size X0w wz → wz.heap[bx0]? = some (.cells #[.slice x0a x0n x0c, .slice x0b x0m x0d] 33 (0, 0)) from fun wz h => (h.block _ (lt_of_block hxbx0)).trans hxbx0)
  clear hX0w hbx0 hxbx0
  have GX0 := Lib.hid (gx0.below hbX0w)
  clear gx0
  have z31 := z29.trans (hbX0w.mono z29.size)
  have Sz31 := Sz29.trans (hbX0w.mono Sz29.size)
  have n32 := hbX0w.size
  clear z29 Sz29 hbX0w
  have y0z0 : Below X0w.heap.size X0w X0w := Below.refl _ _
  go_wp2_with (first | go_skip | (refine wpList_load_row_w rfl 30 _ rfl w.heap.size rfl _ _ _ _ (Kx0.out _ (by first | assumption | exact (by assumption : Below _ w1 _).alloc (Below.size (by assumption)) _)) Try.underlying30 rfl (size_LAlg _ _) ?_) | (refine wpList_load_row_w rfl 33 _ rfl bx0 rfl _ _ _ _ (KX0.out _ (by assumption)) Try.underlying33 rfl (size_Alg _ _) ?_))
  have nlo1 : w1.heap.size ≤ X0w.heap.size := z31.size
  refine (toIntS_G _ _ L1 _ (HR1.out.below z31) hs1).mono ?_
  rintro e x1w ⟨x1a, x1n, x1c, rfl, gx1, hbx1⟩
  have z33 := z31.trans (hbx1.mono z31.size)
  have Sz33 := Sz31.trans (hbx1.mono Sz31.size)
  have y0z33 := y0z0.trans (hbx1.mono y0z0.size)
  have n34 := hbx1.size
  clear hbx1
  have GX1 := Lib.hid gx1
  clear gx1
  have y1z0 : Below x1w.heap.size x1w x1w := Below.refl _ _
  go_wp2_with (first | go_skip | (refine wpList_load_row_w rfl 30 _ rfl w.heap.size rfl _ _ _ _ (Kx0.out _ (by first | assumption | exact (by assumption : Below _ w1 _).alloc (Below.size (by assumption)) _)) Try.underlying30 rfl (size_LAlg _ _) ?_) | (refine wpList_load_row_w rfl 33 _ rfl bx0 rfl _ _ _ _ (KX0.out _ (by assumption)) Try.underlying33 rfl (size_Alg _ _) ?_))
  have nlg : w1.heap.size ≤ x1w.heap.size := z33.size
  refine (HI.out _ _ _ _ _ _ _ _ _ _ (GX0.out.below y0z33).rd (GX1.out.below y1z0).rdc).mono ?_
  rintro e wI ⟨G0a, G0n, G0c, rfl, G0g, hbG⟩
  have z35 := z33.trans (hbG.mono z33.size)
  have Sz35 := Sz33.trans (hbG.mono Sz33.size)
  have y0z35 := y0z33.trans (hbG.mono y0z33.size)
  have y1z35 := y1z0.trans (hbG.mono y1z0.size)
  have n36 := hbG.size
  clear hbG
  have Gz0 : Below wI.heap.size wI wI := Below.refl _ _
  go_wp2_with (first | go_skip | (refine wpList_load_row_w rfl 30 _ rfl w.heap.size rfl _ _ _ _ (Kx0.out _ (by first | assumption | exact (by assumption : Below _ w1 _).alloc (Below.size (by assumption)) _)) Try.underlying30 rfl (size_LAlg _ _) ?_) | (refine wpList_load_row_w rfl 33 _ rfl bx0 rfl _ _ _ _ (KX0.out _ (by assumption)) Try.underlying33 rfl (size_Alg _ _) ?_))
  have HG0 := Lib.hid (G0g)
  clear G0g
  refine (eqIntS_R _ _ V0 _ (HG0.out.below Gz0).rd (HS0.out.below Sz35) (by omega)).mono ?_
  rintro e c0w ⟨rfl, hbc0⟩
  have z37 := z35.trans (hbc0.mono z35.size)
  have Sz37 := Sz35.trans (hbc0.mono Sz35.size)
  have y0z37 := y0z35.trans (hbc0.mono y0z35.size)
  have y1z37 := y1z35.trans (hbc0.mono y1z35.size)
  have Gz37 := Gz0.trans (hbc0.mono Gz0.size)
  have n38 := hbc0.size
  clear z35 Sz35 y0z35 y1z35 Gz0 hbc0
  go_wp2_with (first | go_skip | (refine wpList_load_row_w rfl 30 _ rfl w.heap.size rfl _ _ _ _ (Kx0.out _ (by first | assumption | exact (by assumption : Below _ w1 _).alloc (Below.size (by assumption)) _)) Try.underlying30 rfl (size_LAlg _ _) ?_) | (refine wpList_load_row_w rfl 33 _ rfl bx0 rfl _ _ _ _ (KX0.out _ (by assumption)) Try.underlying33 rfl (size_Alg _ _) ?_))
  obtain ⟨c0, c1⟩ := bxL_cells (Kx0.out _ z37)
  obtain ⟨d0, d1⟩ := bx_cells (KX0.out _ y0z37)
  go_wp2
  go_region_with (first
    | (go_at_call 23; refine (toAlgebra_G _ _ _ _ L0 T0 _ (HR0.out.below z37.drew) (HT0.out.below z37.drew) Sm0.out).mono ?_; rintro e e0w ⟨e0a, e0n, e0c, e0b, e0m, e0d, rfl, ge0, hbe0⟩; have z39 := z37.drew.trans (hbe0.mono z37.drew.size); have Sz39 := Sz37.drew.trans (hbe0.mono Sz37.drew.size); have y0z39 := y0z37.drew.trans (hbe0.mono y0z37.drew.size); have y1z39 := y1z37.drew.trans (hbe0.mono y1z37.drew.size); have Gz39 := Gz37.drew.trans (hbe0.mono Gz37.drew.size); obtain ⟨e0, e1⟩ := bx_cells (KX0.out _ y0z39))
    | (go_at_call 26; refine (eqAlgebra_R _ _ _ _ L0 T0 _ (GX0.out.below y0z39).rd ge0.rd Sm0.out).mono ?_; rintro e f0w ⟨rfl, hbf0⟩; have z40 := z39.trans (hbf0.mono z39.size); have Sz40 := Sz39.trans (hbf0.mono Sz39.size); have y0z40 := y0z39.trans (hbf0.mono y0z39.size); have y1z40 := y1z39.trans (hbf0.mono y1z39.size); have Gz40 := Gz39.trans (hbf0.mono Gz39.size)))
  all_goals
    clear c0 c1 d0 d1 e0 e1 ge0 hbe0 hbf0 z37 Sz37 y0z37 y1z37 Gz37 z39 Sz39 y0z39 y1z39 Gz39
    have nf0 := Gz40.size
    go_wp2_with (first | go_skip | (refine wpList_load_row_w rfl 30 _ rfl w.heap.size rfl _ _ _ _ (Kx0.out _ (by first | assumption | exact (by assumption : Below _ w1 _).alloc (Below.size (by assumption)) _)) Try.underlying30 rfl (size_LAlg _ _) ?_) | (refine wpList_load_row_w rfl 33 _ rfl bx0 rfl _ _ _ _ (KX0.out _ (by assumption)) Try.underlying33 rfl (size_Alg _ _) ?_))
    refine (toIntS_G _ _ L1 _ (HR1.out.below z40) hs1).mono ?_
    rintro e t1w ⟨t1a, t1n, t1c, rfl, gt1, hbt1⟩
    have z41 := z40.trans (hbt1.mono z40.size)
    have Sz41 := Sz40.trans (hbt1.mono Sz40.size)
    have y0z41 := y0z40.trans (hbt1.mono y0z40.size)
    have y1z41 := y1z40.trans (hbt1.mono y1z40.size)
    have Gz41 := Gz40.trans (hbt1.mono Gz40.size)
    have n42 := hbt1.size
    clear z40 Sz40 y0z40 y1z40 Gz40 hbt1
    go_wp2_with (first | go_skip | (refine wpList_load_row_w rfl 30 _ rfl w.heap.size rfl _ _ _ _ (Kx0.out _ (by first | assumption | exact (by assumption : Below _ w1 _).alloc (Below.size (by assumption)) _)) Try.underlying30 rfl (size_LAlg _ _) ?_) | (refine wpList_load_row_w rfl 33 _ rfl bx0 rfl _ _ _ _ (KX0.out _ (by assumption)) Try.underlying33 rfl (size_Alg _ _) ?_))
    refine (eqIntS_R _ _ L1 _ (GX1.out.below y1z41).rd gt1.rd hs1).mono ?_
    rintro e u1w ⟨rfl, hbu1⟩
    have z43 := z41.trans (hbu1.mono z41.size)
    have Sz43 := Sz41.trans (hbu1.mono Sz41.size)
    have y0z43 := y0z41.trans (hbu1.mono y0z41.size)
    have y1z43 := y1z41.trans (hbu1.mono y1z41.size)
    have Gz43 := Gz41.trans (hbu1.mono Gz41.size)
    have n44 := hbu1.size
    clear z41 Sz41 y0z41 y1z41 Gz41 hbu1
    clear gt1
    go_wp2_with (first | go_skip | (refine wpList_load_row_w rfl 30 _ rfl w.heap.size rfl _ _ _ _ (Kx0.out _ (by first | assumption | exact (by assumption : Below _ w1 _).alloc (Below.size (by assumption)) _)) Try.underlying30 rfl (size_LAlg _ _) ?_) | (refine wpList_load_row_w rfl 33 _ rfl bx0 rfl _ _ _ _ (KX0.out _ (by assumption)) Try.underlying33 rfl (size_Alg _ _) ?_))
    have nhi0 := y0z43.size
    refine (markAlgebra_G wS.heap.size x0w.heap.size _ _ _ _ _ _ L0 T0 (1) _ (GX0.out.below y0z43) (by omega) Sm0.out (by omega) (by omega)).mono ?_
    rintro e k0w ⟨rfl, _, mk0⟩
    have z45 := z43.trans (mk0.below (by omega) (by have := z43.size; omega))
    have Sz45 := Sz43.trans (mk0.below (by omega) (by have := Sz43.size; omega))
    replace GX1 := Lib.hid ((GX1.out.below y1z43).mid mk0 (by omega))
    have y1z45 : Below k0w.heap.size k0w k0w := Below.refl _ _
    replace HG0 := Lib.hid ((HG0.out.below Gz43).mid mk0 (by omega))
    have Gz45 : Below k0w.heap.size k0w k0w := Below.refl _ _
    have n46 := mk0.size
    clear z43 Sz43 y0z43 y1z43 Gz43 mk0
    go_wp2_with (first | go_skip | (refine wpList_load_row_w rfl 30 _ rfl w.heap.size rfl _ _ _ _ (Kx0.out _ (by first | assumption | exact (by assumption : Below _ w1 _).alloc (Below.size (by assumption)) _)) Try.underlying30 rfl (size_LAlg _ _) ?_))
    refine (markIntS_G X0w.heap.size x1w.heap.size _ L1 (1 + wtA L0 T0) _ (GX1.out.below y1z45) hs1 (by omega) (by omega)).mono ?_
    rintro e k1w ⟨rfl, _, mk1⟩
    have z47 := z45.trans (mk1.below (by omega) (by have := z45.size; omega))
    have Sz47 := Sz45.trans (mk1.below (by omega) (by have := Sz45.size; omega))
    replace HG0 := Lib.hid ((HG0.out.below Gz45).mid mk1 (by omega))
    have Gz47 : Below k1w.heap.size k1w k1w := Below.refl _ _
    have n48 := mk1.size
    clear z45 Sz45 y1z45 Gz45 mk1
    have hkx : ¬ 1 + wtA L0 T0 + (L1.length : Int) < 0 := by omega
    have hkb : decide (1 + wtA L0 T0 + (L1.length : Int) < 0) = false := decide_eq_false hkx
    go_wp2_with (first | go_skip | (refine wpList_load_row_w rfl 30 _ rfl w.heap.size rfl _ _ _ _ (Kx0.out _ (by first | assumption | exact (by assumption : Below _ w1 _).alloc (Below.size (by assumption)) _)) Try.underlying30 rfl (size_LAlg _ _) ?_))
    refine (eqIntS_R _ _ V0 _ (HG0.out.below Gz47).rd (HS0.out.below Sz47) (by omega)).mono ?_
    rintro e d0w ⟨rfl, hbd0⟩
    have z49 := z47.trans (hbd0.mono z47.size)
    have Sz49 := Sz47.trans (hbd0.mono Sz47.size)
    have Gz49 := Gz47.trans (hbd0.mono Gz47.size)
    have n50 := hbd0.size
    clear z47 Sz47 Gz47 hbd0
    go_wp2_with (first | go_skip | (refine wpList_load_row_w rfl 30 _ rfl w.heap.size rfl _ _ _ _ (Kx0.out _ (by first | assumption | exact (by assumption : Below _ w1 _).alloc (Below.size (by assumption)) _)) Try.underlying30 rfl (size_LAlg _ _) ?_))
    refine (markIntS_G _ _ _ V0 (1) _ (HG0.out.below Gz49) (by omega) (by omega) (by omega)).mono ?_
    rintro e l0w ⟨rfl, MG0, ml0⟩
    have z51 := z49.trans (ml0.below (by omega) (by have := z49.size; omega))
    have Sz51 := Sz49.trans (ml0.below (by omega) (by have := Sz49.size; omega))
    replace MG0 := Lib.hid MG0
    have Gz51 : Below l0w.heap.size l0w l0w := Below.refl _ _
    clear z49 Sz49 Gz49 ml0
    have hq0 : ¬ 1 + (V0.length : Int) < 0 := by omega
    have hqb0 : decide (1 + (V0.length : Int) < 0) = false := decide_eq_false hq0
    have hqq : (1 + (V0.length : Int) != 1 + (V0.length : Int)) = false := by simp
    go_wp2_with (first | go_skip | (refine wpList_load_row_w rfl 30 _ rfl w.heap.size rfl _ _ _ _ (Kx0.out _ (by first | assumption | exact (by assumption : Below _ w1 _).alloc (Below.size (by assumption)) _)) Try.underlying30 rfl (size_LAlg _ _) ?_))
    refine (heldIntS_G _ V0 (1) _ (MG0.out.below Gz51) (by omega) (by omega) (by omega)).mono ?_
    rintro e p0w ⟨rfl, hbp0⟩
    have z52 := z51.trans (hbp0.mono z51.size)
    have Sz52 := Sz51.trans (hbp0.mono Sz51.size)
    have Gz52 := Gz51.trans (hbp0.mono Gz51.size)
    have n53 := hbp0.size
    clear z51 Sz51 Gz51 hbp0
    go_wp2_with (first | go_skip | (refine wpList_load_row_w rfl 30 _ rfl w.heap.size rfl _ _ _ _ (Kx0.out _ (by first | assumption | exact (by assumption : Below _ w1 _).alloc (Below.size (by assumption)) _)) Try.underlying30 rfl (size_LAlg _ _) ?_))
    refine (toAlgebra_G _ _ _ _ L0 T0 _ (HR0.out.below z52) (HT0.out.below z52) Sm0.out).mono ?_
    rintro e o0w ⟨o0a, o0n, o0c, o0b, o0m, o0d, rfl, go0, hbo0⟩
    have z54 := z52.trans (hbo0.mono z52.size)
    have Sz54 := Sz52.trans (hbo0.mono Sz52.size)
    have Gz54 := Gz52.trans (hbo0.mono Gz52.size)
    have n55 := hbo0.size
    clear hbo0
    go_wp2_with (first | go_skip | (refine wpList_load_row_w rfl 30 _ rfl w.heap.size rfl _ _ _ _ (Kx0.out _ (by first | assumption | exact (by assumption : Below _ w1 _).alloc (Below.size (by assumption)) _)) Try.underlying30 rfl (size_LAlg _ _) ?_))
    refine (toIntS_G _ _ L1 _ (HR1.out.below z54) hs1).mono ?_
    rintro e o1w ⟨o1a, o1n, o1c, rfl, go1, hbo1⟩
    have z56 := z54.trans (hbo1.mono z54.size)
    have Sz56 := Sz54.trans (hbo1.mono Sz54.size)
    have Gz56 := Gz54.trans (hbo1.mono Gz54.size)
    have n57 := hbo1.size
    replace go0 := go0.below hbo1
    clear hbo1
    go_wp2_with (first | go_skip | (refine wpList_load_row_w rfl 30 _ rfl w.heap.size rfl _ _ _ _ (Kx0.out _ (by first | assumption | exact (by assumption : Below _ w1 _).alloc (Below.size (by assumption)) _)) Try.underlying30 rfl (size_LAlg _ _) ?_))
    refine (HI.out _ _ _ _ _ _ _ _ _ _ go0.rd go1.rdc).mono ?_
    rintro e wH ⟨H0a, H0n, H0c, rfl, H0g, hbH⟩
    have z58 := z56.trans (hbH.mono z56.size)
    have Sz58 := Sz56.trans (hbH.mono Sz56.size)
    have Gz58 := Gz56.trans (hbH.mono Gz56.size)
    have n59 := hbH.size
    clear hbH go0 go1
    have Hz0 : Below wH.heap.size wH wH := Below.refl _ _
    go_wp2_with (first | go_skip | (refine wpList_load_row_w rfl 30 _ rfl w.heap.size rfl _ _ _ _ (Kx0.out _ (by first | assumption | exact (by assumption : Below _ w1 _).alloc (Below.size (by assumption)) _)) Try.underlying30 rfl (size_LAlg _ _) ?_))
    have HH0 := Lib.hid (H0g)
    clear H0g
    refine (eqIntS_R _ _ V0 _ (HH0.out.below Hz0).rd (HS0.out.below Sz58) (by omega)).mono ?_
    rintro e r0w ⟨rfl, hbr0⟩
    have z60 := z58.trans (hbr0.mono z58.size)
    have Sz60 := Sz58.trans (hbr0.mono Sz58.size)
    have Gz60 := Gz58.trans (hbr0.mono Gz58.size)
    have Hz60 := Hz0.trans (hbr0.mono Hz0.size)
    have n61 := hbr0.size
    clear z58 Sz58 Gz58 Hz0 hbr0
    go_wp2_with (first | go_skip | (refine wpList_load_row_w rfl 30 _ rfl w.heap.size rfl _ _ _ _ (Kx0.out _ (by first | assumption | exact (by assumption : Below _ w1 _).alloc (Below.size (by assumption)) _)) Try.underlying30 rfl (size_LAlg _ _) ?_))
    go_wp2_with (first | go_skip | (refine wpList_load_row_w rfl 30 _ rfl w.heap.size rfl _ _ _ _ (Kx0.out _ (by first | assumption | exact (by assumption : Below _ w1 _).alloc (Below.size (by assumption)) _)) Try.underlying30 rfl (size_LAlg _ _) ?_))
    refine (heldIntS_G _ V0 (1) _ (MG0.out.below Gz60) (by omega) (by omega) (by omega)).mono ?_
    rintro e u0w ⟨rfl, hbu0⟩
    have z62 := z60.trans (hbu0.mono z60.size)
    have Sz62 := Sz60.trans (hbu0.mono Sz60.size)
    have Gz62 := Gz60.trans (hbu0.mono Gz60.size)
    have Hz62 := Hz60.trans (hbu0.mono Hz60.size)
    have n63 := hbu0.size
    clear z60 Sz60 Gz60 Hz60 hbu0
    go_wp2
    go_ret
    exact ⟨rfl, hB.trans (z62.mono hB.size)⟩
end Go.Proofs.Ytidbilgnclfplaa
