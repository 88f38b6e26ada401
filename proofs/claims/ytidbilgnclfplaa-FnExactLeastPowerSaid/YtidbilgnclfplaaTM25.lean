import Derived.Test.YtidbilgnclfplaaTM23
import Derived.Test.YtidbilgnclfplaaD3
import Derived.Test.YtidbilgnclfplaaL6
namespace Go.Proofs.Ytidbilgnclfplaa
open Go.RowKit

set_option maxRecDepth 100000 in
set_option maxHeartbeats 4000000 in
/-- the law -/
theorem lawLeastPower (a0 b0 : Option Addr) (ca0 cb0 : Nat) (L0 : List Int) (T0 : List (List Int)) (a1 : Option Addr) (ca1 : Nat) (L1 : List Int) (a2 : Option Addr) (ca2 : Nat) (L2 : List Int) (w : World) (hr0 : Rd w a0 L0) (ht0 : RdT w b0 T0) (hL0 : L0.length ≤ maxLen) (hn0 : T0.length ≤ maxLen) (hm0 : ∀ j : Nat, j < T0.length → (rowAt T0 j).length ≤ maxLen) (hr1 : Rd w a1 L1) (hL1 : L1.length ≤ maxLen) (hr2 : Rd w a2 L2) (hL2 : L2.length ≤ maxLen) :
    Calls Try.prog 8 #[.agg #[.slice a0 L0.length ca0, .slice b0 T0.length cb0], .slice a1 L1.length ca1, .slice a2 L2.length ca2] w fun e w' => e = .returned (.bool true) ∧ Below w.heap.size w w' := by
  unfold maxLen at *
  have HM0 := Lib.hid (show ∀ j : Nat, j < T0.length → ((rowAt T0 j).length : Int) ≤ 9223372036854775807 from fun j hj => by have := hm0 j hj; omega)
  have hLL0 : (L0.length : Int) ≤ 9223372036854775807 := by omega
  have hnn0 : (T0.length : Int) ≤ 9223372036854775807 := by omega
  obtain ⟨w1, hw1⟩ : ∃ w1, w1 = (w.alloc (.cells #[.slice a0 L0.length ca0, .slice b0 T0.length cb0] 30)) := ⟨_, rfl⟩
  have hB : Below w.heap.size w w1 := by rw [hw1]; exact ((Below.refl _ _).alloc (Nat.le_refl _) _)
  have hx0 : w1.heap[w.heap.size]? = some (.cells #[.slice a0 L0.length ca0, .slice b0 T0.length cb0] 30 (0, 0)) := by rw [hw1]; exact heap_alloc_new w _
  have Kx0 := Lib.hid (show ∀ wz, Below w1.heap.size w1 wz → wz.heap[w.heap.size]? = some (.cells #[.slice a0 L0.length ca0, .slice b0 T0.length cb0] 30 (0, 0)) from fun wz h => (h.block _ (lt_of_block hx0)).trans hx0)
  have HR0 := Lib.hid (hr0.below hB)
  have HT0 := Lib.hid (ht0.below hB)
  have HR1 := Lib.hid (hr1.below hB)
  have HR2 := Lib.hid (hr2.below hB)
  have z0 : Below w1.heap.size w1 w1 := Below.refl _ _
  by_cases hb1 : 1048576 < L1.length
  · have hc1 : (1048576 : Int) < (L1.length : Int) := by omega
    go_enter Try.func8, Try.ntmps8
    go_wp2_with (rw [← hw1]; clear hw1)
    go_ret
    exact ⟨rfl, hB⟩
  have hs1 : L1.length ≤ 1048576 := by omega
  have hss1 : (L1.length : Int) ≤ 1048576 := by omega
  clear hb1
  by_cases hb2 : 1048576 < L2.length
  · have hc2 : (1048576 : Int) < (L2.length : Int) := by omega
    go_enter Try.func8, Try.ntmps8
    go_wp2_with (rw [← hw1]; clear hw1)
    go_ret
    exact ⟨rfl, hB⟩
  have hs2 : L2.length ≤ 1048576 := by omega
  have hss2 : (L2.length : Int) ≤ 1048576 := by omega
  clear hb2
  obtain ⟨V0, hV0⟩ : ∃ V, V = (lpI L0 T0 L1 L2).getD 0 := ⟨_, rfl⟩
  obtain ⟨V1, hV1⟩ : ∃ V, V = (lpI L0 T0 L1 L2).isSome := ⟨_, rfl⟩
  have HS := Lib.hid (show ∀ (a0 b0 a1 a2 : Option Addr) (ca0 cb0 ca1 ca2 : Nat) (w : World), Rd w a0 L0 → RdT w b0 T0 → Rd w a1 L1 → Rd w a2 L2 → Calls Try.prog 34 #[.agg #[.slice a0 L0.length ca0, .slice b0 T0.length cb0], .slice a1 L1.length ca1, .slice a2 L2.length ca2] w fun e w' => e = .returned (.tuple #[.int .i64 V0, .bool V1]) ∧ Below w.heap.size w w' from fun a0 b0 a1 a2 ca0 cb0 ca1 ca2 w h0 h1 h2 h3 => by rw [hV0, hV1]; exact specLeastPower_any a0 b0 ca0 cb0 L0 T0 a1 ca1 L1 a2 ca2 L2 w h0 h1 h2 h3 hs1 hs2)
  have HI := Lib.hid (show ∀ (a0 b0 a1 a2 : Option Addr) (ca0 cb0 ca1 ca2 : Nat) (w : World), Rd w a0 L0 → RdT w b0 T0 → Rd w a1 L1 → Rd w a2 L2 → L1.length ≤ ca1 → L2.length ≤ ca2 → Calls Try.prog 35 #[.agg #[.slice a0 L0.length ca0, .slice b0 T0.length cb0], .slice a1 L1.length ca1, .slice a2 L2.length ca2] w fun e w' => e = .returned (.tuple #[.int .i64 V0, .bool V1]) ∧ Below w.heap.size w w' from fun a0 b0 a1 a2 ca0 cb0 ca1 ca2 w h0 h1 h2 h3 k1 k2 => by rw [hV0, hV1]; exact implLeastPower_any a0 b0 ca0 cb0 L0 T0 a1 ca1 L1 a2 ca2 L2 w h0 h1 h2 h3 hs1 hs2 k1 k2)
  clear hV0 hV1 hm0 ht0 hx0 hr0 hr1 hr2
  go_enter Try.func8, Try.ntmps8
  go_wp2_with (first | (rw [← hw1]; clear hw1) | (refine wpList_load_row_w rfl 30 _ rfl w.heap.size rfl _ _ _ _ (Kx0.out _ (by first | assumption | exact (by assumption : Below _ w1 _).alloc (Below.size (by assumption)) _)) Try.underlying30 rfl (size_LAlg _ _) ?_))
  refine (szAlgebra_any _ _ _ _ L0 T0 1048576 _ (HT0.out.below z0) (by omega) (by omega) hLL0 HM0.out hnn0).mono ?_
  rintro e s0w ⟨⟨v0, rfl, p0, q0, r0⟩, hbs0⟩
  have z21 := z0.trans (hbs0.mono z0.size)
  clear z0 hbs0
  by_cases hv0 : v0 < 0
  · go_wp2
    go_ret
    exact ⟨rfl, hB.trans (z21.mono hB.size)⟩
  obtain ⟨s1, s2, s3⟩ := r0 (by omega)
  have S10 : L0.length ≤ 1048576 := by omega
  have S20 : T0.length ≤ 1048576 := by omega
  have S30 := Lib.hid (show ∀ j : Nat, j < T0.length → (rowAt T0 j).length ≤ 1048576 from fun j hj => by have := s3 j hj; omega)
  clear s1 s2 s3 r0
  go_wp2_with (first | (refine wpList_load_row_w rfl 30 _ rfl w.heap.size rfl _ _ _ _ (Kx0.out _ (by first | assumption | exact (by assumption : Below _ w1 _).alloc (Below.size (by assumption)) _)) Try.underlying30 rfl (size_LAlg _ _) ?_))
  refine (toAlgebra_any _ _ _ _ L0 T0 _ (HR0.out.below z21) (HT0.out.below z21) S10 S20 S30.out).mono ?_
  rintro e m0w ⟨bum0, Bm0, Rm0, rfl, lom0, hbBm0, rowm0, ownm0, hbm0⟩
  have z22 := z21.trans (hbm0.mono z21.size)
  clear hbm0
  go_wp2_with (first | (refine wpList_load_row_w rfl 30 _ rfl w.heap.size rfl _ _ _ _ (Kx0.out _ (by first | assumption | exact (by assumption : Below _ w1 _).alloc (Below.size (by assumption)) _)) Try.underlying30 rfl (size_LAlg _ _) ?_))
  refine (toIntS_any _ _ L1 _ (HR1.out.below z22) hs1).mono ?_
  rintro e m1w ⟨rfl, rowm1, hbm1⟩
  have z23 := z22.trans (hbm1.mono z22.size)
  replace rowm0 := rowm0.below hbm1 rowm0.lt
  replace ownm0 := ownm0.below hbm1
  clear hbm1
  go_wp2_with (first | (refine wpList_load_row_w rfl 30 _ rfl w.heap.size rfl _ _ _ _ (Kx0.out _ (by first | assumption | exact (by assumption : Below _ w1 _).alloc (Below.size (by assumption)) _)) Try.underlying30 rfl (size_LAlg _ _) ?_))
  refine (toIntS_any _ _ L2 _ (HR2.out.below z23) hs2).mono ?_
  rintro e m2w ⟨rfl, rowm2, hbm2⟩
  have z24 := z23.trans (hbm2.mono z23.size)
  replace rowm0 := rowm0.below hbm2 rowm0.lt
  replace ownm0 := ownm0.below hbm2
  replace rowm1 := rowm1.below hbm2 rowm1.lt
  clear hbm2
  go_wp2_with (first | (refine wpList_load_row_w rfl 30 _ rfl w.heap.size rfl _ _ _ _ (Kx0.out _ (by first | assumption | exact (by assumption : Below _ w1 _).alloc (Below.size (by assumption)) _)) Try.underlying30 rfl (size_LAlg _ _) ?_))
  refine (HS.out _ _ _ _ _ _ _ _ _ rowm0.rd ownm0.rd rowm1.rd rowm2.rd).mono ?_
  rintro e wS ⟨rfl, hbS⟩
  have z25 := z24.trans (hbS.mono z24.size)
  clear z24 hbS
  clear rowm0 ownm0 rowm1 rowm2
  go_wp2_with (first | (refine wpList_load_row_w rfl 30 _ rfl w.heap.size rfl _ _ _ _ (Kx0.out _ (by first | assumption | exact (by assumption : Below _ w1 _).alloc (Below.size (by assumption)) _)) Try.underlying30 rfl (size_LAlg _ _) ?_))
  refine (toAlgebra_any _ _ _ _ L0 T0 _ (HR0.out.below z25) (HT0.out.below z25) S10 S20 S30.out).mono ?_
  rintro e x0w ⟨bux0, Bx0, Rx0, rfl, lox0, hbBx0, rowx0, ownx0, hbx0⟩
  have z26 := z25.trans (hbx0.mono z25.size)
  clear z25 hbx0
  go_wp2_with (first | (refine wpList_load_row_w rfl 30 _ rfl w.heap.size rfl _ _ _ _ (Kx0.out _ (by first | assumption | exact (by assumption : Below _ w1 _).alloc (Below.size (by assumption)) _)) Try.underlying30 rfl (size_LAlg _ _) ?_))
  obtain ⟨g0, hg0⟩ : ∃ g, g = x0w.heap.size := ⟨_, rfl⟩
  obtain ⟨X0w, hX0⟩ : ∃ x, x = x0w.alloc (.cells #[.slice (some ⟨bux0, 0, none⟩) L0.length L0.length, .slice (some ⟨Bx0, 0, none⟩) T0.length T0.length] 33) := ⟨_, rfl⟩
  rw [← hX0, ← hg0]
  have hbX0 : Below x0w.heap.size x0w X0w := by rw [hX0]; exact (Below.refl _ _).alloc (Nat.le_refl _) _
  have hxx0 : X0w.heap[g0]? = some (.cells #[.slice (some ⟨bux0, 0, none⟩) L0.length L0.length, .slice (some ⟨Bx0, 0, none⟩) T0.length T0.length] 33 (0, 0)) := by rw [hX0, hg0]; exact heap_alloc_new x0w _
  have KX0 := Lib.hid (show ∀ wz, Below X0w.heap.size X0w wz → wz.heap[g0]? = some (.cells #[.slice (some ⟨bux0, 0, none⟩) L0.length L0.length, .slice (some ⟨Bx0, 0, none⟩) T0.length T0.length] 33 (0, 0)) from fun wz h => (h.block _ (lt_of_block hxx0)).trans hxx0)
  have row0 := Lib.hid (rowx0.below hbX0 rowx0.lt)
  have own0 := Lib.hid (ownx0.below hbX0)
  clear rowx0 ownx0 hX0 hg0 hxx0
  have z27 := z26.trans (hbX0.mono z26.size)
  clear z26 hbX0
  have y0z0 : Below X0w.heap.size X0w X0w := Below.refl _ _
  go_wp2_with (first | (refine wpList_load_row_w rfl 30 _ rfl w.heap.size rfl _ _ _ _ (Kx0.out _ (by first | assumption | exact (by assumption : Below _ w1 _).alloc (Below.size (by assumption)) _)) Try.underlying30 rfl (size_LAlg _ _) ?_) | (refine wpList_load_row_w rfl 33 _ rfl g0 rfl _ _ _ _ (KX0.out _ (by assumption)) Try.underlying33 rfl (size_Alg _ _) ?_))
  refine (toIntS_any _ _ L1 _ (HR1.out.below z27) hs1).mono ?_
  rintro e x1w ⟨rfl, rowx1, hbx1⟩
  have z28 := z27.trans (hbx1.mono z27.size)
  have y0z28 := y0z0.trans (hbx1.mono y0z0.size)
  clear z27 y0z0 hbx1
  have row1 := Lib.hid rowx1
  clear rowx1
  have y1z0 : Below x1w.heap.size x1w x1w := Below.refl _ _
  go_wp2_with (first | (refine wpList_load_row_w rfl 30 _ rfl w.heap.size rfl _ _ _ _ (Kx0.out _ (by first | assumption | exact (by assumption : Below _ w1 _).alloc (Below.size (by assumption)) _)) Try.underlying30 rfl (size_LAlg _ _) ?_) | (refine wpList_load_row_w rfl 33 _ rfl g0 rfl _ _ _ _ (KX0.out _ (by assumption)) Try.underlying33 rfl (size_Alg _ _) ?_))
  refine (toIntS_any _ _ L2 _ (HR2.out.below z28) hs2).mono ?_
  rintro e x2w ⟨rfl, rowx2, hbx2⟩
  have z29 := z28.trans (hbx2.mono z28.size)
  have y0z29 := y0z28.trans (hbx2.mono y0z28.size)
  have y1z29 := y1z0.trans (hbx2.mono y1z0.size)
  clear z28 y0z28 y1z0 hbx2
  have row2 := Lib.hid rowx2
  clear rowx2
  have y2z0 : Below x2w.heap.size x2w x2w := Below.refl _ _
  go_wp2_with (first | (refine wpList_load_row_w rfl 30 _ rfl w.heap.size rfl _ _ _ _ (Kx0.out _ (by first | assumption | exact (by assumption : Below _ w1 _).alloc (Below.size (by assumption)) _)) Try.underlying30 rfl (size_LAlg _ _) ?_) | (refine wpList_load_row_w rfl 33 _ rfl g0 rfl _ _ _ _ (KX0.out _ (by assumption)) Try.underlying33 rfl (size_Alg _ _) ?_))
  refine (HI.out _ _ _ _ _ _ _ _ _ (row0.out.below y0z29 row0.out.lt).rd (own0.out.below y0z29).rd (row1.out.below y1z29 row1.out.lt).rd (row2.out.below y2z0 row2.out.lt).rd (Nat.le_refl _) (Nat.le_refl _)).mono ?_
  rintro e wI ⟨rfl, hbI⟩
  have z30 := z29.trans (hbI.mono z29.size)
  have y0z30 := y0z29.trans (hbI.mono y0z29.size)
  have y1z30 := y1z29.trans (hbI.mono y1z29.size)
  have y2z30 := y2z0.trans (hbI.mono y2z0.size)
  clear z29 y0z29 y1z29 y2z0 hbI
  have hne0 : (V0 != V0) = false := by simp
  have hne1 : (V1 != V1) = false := by simp
  obtain ⟨c0, c1⟩ := bxL_cells (Kx0.out _ z30)
  obtain ⟨d0, d1⟩ := bx_cells (KX0.out _ y0z30)
  go_wp2
  go_region_with (first
    | (go_at_call 23; refine (toAlgebra_any _ _ _ _ L0 T0 _ (HR0.out.below z30.drew) (HT0.out.below z30.drew) S10 S20 S30.out).mono ?_; rintro e e0w ⟨bue, Be, Re, rfl, _, _, rowe, owne, hbe0⟩; have z31 := z30.drew.trans (hbe0.mono z30.drew.size); have y0z31 := y0z30.drew.trans (hbe0.mono y0z30.drew.size); have y1z31 := y1z30.drew.trans (hbe0.mono y1z30.drew.size); have y2z31 := y2z30.drew.trans (hbe0.mono y2z30.drew.size); obtain ⟨e0, e1⟩ := bx_cells (KX0.out _ y0z31))
    | (go_at_call 26; refine (eqAlgebra_same _ _ _ _ _ _ _ _ L0 T0 _ (row0.out.below y0z31 row0.out.lt).rd rowe.rd (own0.out.below y0z31).rd owne.rd (by omega) (fun j hj => Nat.le_trans (S30.out j hj) (by decide)) (by omega)).mono ?_; rintro e f0w ⟨rfl, hbf0⟩; have z32 := z31.trans (hbf0.mono z31.size); have y0z32 := y0z31.trans (hbf0.mono y0z31.size); have y1z32 := y1z31.trans (hbf0.mono y1z31.size); have y2z32 := y2z31.trans (hbf0.mono y2z31.size)))
  all_goals
    clear c0 c1 d0 d1 e0 e1 rowe owne hbe0 hbf0 z30 y0z30 y1z30 y2z30 z31 y0z31 y1z31 y2z31
    go_wp2_with (first | (refine wpList_load_row_w rfl 30 _ rfl w.heap.size rfl _ _ _ _ (Kx0.out _ (by first | assumption | exact (by assumption : Below _ w1 _).alloc (Below.size (by assumption)) _)) Try.underlying30 rfl (size_LAlg _ _) ?_) | (refine wpList_load_row_w rfl 33 _ rfl g0 rfl _ _ _ _ (KX0.out _ (by assumption)) Try.underlying33 rfl (size_Alg _ _) ?_))
    refine (toIntS_any _ _ L1 _ (HR1.out.below z32) hs1).mono ?_
    rintro e t1w ⟨rfl, rowt, hbt1⟩
    have z33 := z32.trans (hbt1.mono z32.size)
    have y0z33 := y0z32.trans (hbt1.mono y0z32.size)
    have y1z33 := y1z32.trans (hbt1.mono y1z32.size)
    have y2z33 := y2z32.trans (hbt1.mono y2z32.size)
    clear z32 y0z32 y1z32 y2z32 hbt1
    go_wp2_with fail
    refine (eqIntS_same _ _ _ _ L1 _ (row1.out.below y1z33 row1.out.lt).rd rowt.rd (by omega)).mono ?_
    rintro e u1w ⟨rfl, hdu1⟩
    have hbu1 := hdu1.below t1w.heap.size
    have z34 := z33.trans (hbu1.mono z33.size)
    have y0z34 := y0z33.trans (hbu1.mono y0z33.size)
    have y1z34 := y1z33.trans (hbu1.mono y1z33.size)
    have y2z34 := y2z33.trans (hbu1.mono y2z33.size)
    clear z33 y0z33 y1z33 y2z33 hbu1
    clear rowt hdu1
    go_wp2_with (first | (refine wpList_load_row_w rfl 30 _ rfl w.heap.size rfl _ _ _ _ (Kx0.out _ (by first | assumption | exact (by assumption : Below _ w1 _).alloc (Below.size (by assumption)) _)) Try.underlying30 rfl (size_LAlg _ _) ?_) | (refine wpList_load_row_w rfl 33 _ rfl g0 rfl _ _ _ _ (KX0.out _ (by assumption)) Try.underlying33 rfl (size_Alg _ _) ?_))
    refine (toIntS_any _ _ L2 _ (HR2.out.below z34) hs2).mono ?_
    rintro e t2w ⟨rfl, rowt, hbt2⟩
    have z35 := z34.trans (hbt2.mono z34.size)
    have y0z35 := y0z34.trans (hbt2.mono y0z34.size)
    have y1z35 := y1z34.trans (hbt2.mono y1z34.size)
    have y2z35 := y2z34.trans (hbt2.mono y2z34.size)
    clear z34 y0z34 y1z34 y2z34 hbt2
    go_wp2_with fail
    refine (eqIntS_same _ _ _ _ L2 _ (row2.out.below y2z35 row2.out.lt).rd rowt.rd (by omega)).mono ?_
    rintro e u2w ⟨rfl, hdu2⟩
    have hbu2 := hdu2.below t2w.heap.size
    have z36 := z35.trans (hbu2.mono z35.size)
    have y0z36 := y0z35.trans (hbu2.mono y0z35.size)
    have y1z36 := y1z35.trans (hbu2.mono y1z35.size)
    have y2z36 := y2z35.trans (hbu2.mono y2z35.size)
    clear z35 y0z35 y1z35 y2z35 hbu2
    clear rowt hdu2
    go_wp2
    go_ret
    exact ⟨rfl, hB.trans (z36.mono hB.size)⟩
end Go.Proofs.Ytidbilgnclfplaa
