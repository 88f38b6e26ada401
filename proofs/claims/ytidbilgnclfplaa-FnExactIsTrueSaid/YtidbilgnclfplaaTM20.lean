import Derived.Test.YtidbilgnclfplaaTM18
import Derived.Test.YtidbilgnclfplaaD3
import Derived.Test.YtidbilgnclfplaaL6
namespace Go.Proofs.Ytidbilgnclfplaa
open Go.RowKit

set_option maxRecDepth 100000 in
set_option maxHeartbeats 4000000 in
/-- the law -/
theorem lawIsTrue (a0 b0 : Option Addr) (ca0 cb0 : Nat) (L0 : List Int) (T0 : List (List Int)) (a1 : Option Addr) (ca1 : Nat) (L1 : List Int) (w : World) (hr0 : Rd w a0 L0) (ht0 : RdT w b0 T0) (hL0 : L0.length ≤ maxLen) (hn0 : T0.length ≤ maxLen) (hm0 : ∀ j : Nat, j < T0.length → (rowAt T0 j).length ≤ maxLen) (hr1 : Rd w a1 L1) (hL1 : L1.length ≤ maxLen) :
    Calls Try.prog 6 #[.agg #[.slice a0 L0.length ca0, .slice b0 T0.length cb0], .slice a1 L1.length ca1] w fun e w' => e = .returned (.bool true) ∧ Below w.heap.size w w' := by
  unfold maxLen at *
  have HM0 := Lib.hid (show ∀ j : Nat, j < T0.length → ((rowAt T0 j).length : Int) ≤ 9223372036854775807 from fun j hj => by have := hm0 j hj; omega)
  have hLL0 : (L0.length : Int) ≤ 9223372036854775807 := by omega
  have hnn0 : (T0.length : Int) ≤ 9223372036854775807 := by omega
  obtain ⟨w1, hw1⟩ : ∃ w1, w1 = (w.alloc (.cells #[.slice a0 L0.length ca0, .slice b0 T0.length cb0] 30)) := ⟨_, rfl⟩
  have hB : Below w.heap.size w w1 := by rw [hw1]; exact ((Below.refl _ _).alloc (Nat.le_refl _) _)
  have hx0 : w1.heap[w.heap.size]? = some (.cells #[.slice a0 L0.length ca0, .slice b0 T0.length cb0] 30 (0, 0)) := by rw [hw1]; exact heap_alloc_new w _
  have Kx0 := Lib.hid (show ∀ wz, Below w1.heap.size w1 wz → wz.heap[w.heap.size]? = some (.cells #[.slice a0 L0.length ca0, .slice b0 T0.length cb0] 30 (0, 0)) from fun wz h => (h.block _ (lt_of_block hx0)).trans hx0)
  have HR0 := Lib.hid (hr0.below hB)
  have HT0 := Lib.hid (ht0.below hB)
  have HR1 := Lib.hid (hr1.below hB)
  have z0 : Below w1.heap.size w1 w1 := Below.refl _ _
  by_cases hb1 : 1048576 < L1.length
  · have hc1 : (1048576 : Int) < (L1.length : Int) := by omega
    go_enter Try.func6, Try.ntmps6
    go_wp2_with (rw [← hw1]; clear hw1)
    go_ret
    exact ⟨rfl, hB⟩
  have hs1 : L1.length ≤ 1048576 := by omega
  have hss1 : (L1.length : Int) ≤ 1048576 := by omega
  clear hb1
  obtain ⟨V, hV⟩ : ∃ V, V = itB L0 T0 L1 := ⟨_, rfl⟩
  have HS := Lib.hid (show ∀ (a0 b0 a1 : Option Addr) (ca0 cb0 ca1 : Nat) (w : World), Rd w a0 L0 → RdT w b0 T0 → Rd w a1 L1 → Calls Try.prog 30 #[.agg #[.slice a0 L0.length ca0, .slice b0 T0.length cb0], .slice a1 L1.length ca1] w fun e w' => e = .returned (.bool V) ∧ Below w.heap.size w w' from fun a0 b0 a1 ca0 cb0 ca1 w h0 h1 h2 => by rw [hV]; exact specIsTrue_any a0 b0 ca0 cb0 L0 T0 a1 ca1 L1 w h0 h1 h2 hs1)
  have HI := Lib.hid (show ∀ (a0 b0 a1 : Option Addr) (ca0 cb0 ca1 : Nat) (w : World), Rd w a0 L0 → RdT w b0 T0 → Rd w a1 L1 → L1.length ≤ ca1 → Calls Try.prog 31 #[.agg #[.slice a0 L0.length ca0, .slice b0 T0.length cb0], .slice a1 L1.length ca1] w fun e w' => e = .returned (.bool V) ∧ Below w.heap.size w w' from fun a0 b0 a1 ca0 cb0 ca1 w h0 h1 h2 k1 => by rw [hV]; exact implIsTrue_any a0 b0 ca0 cb0 L0 T0 a1 ca1 L1 w h0 h1 h2 hs1 k1)
  clear hV hm0 ht0 hx0 hr0 hr1
  go_enter Try.func6, Try.ntmps6
  go_wp2_with (first | (rw [← hw1]; clear hw1) | (refine wpList_load_row_w rfl 30 _ rfl w.heap.size rfl _ _ _ _ (Kx0.out _ (by first | assumption | exact (by assumption : Below _ w1 _).alloc (Below.size (by assumption)) _)) Try.underlying30 rfl (size_LAlg _ _) ?_))
  refine (szAlgebra_any _ _ _ _ L0 T0 1048576 _ (HT0.out.below z0) (by omega) (by omega) hLL0 HM0.out hnn0).mono ?_
  rintro e s0w ⟨⟨v0, rfl, p0, q0, r0⟩, hbs0⟩
  have z21 := z0.trans (hbs0.mono z0.size)
  clear z0 hbs0
  by_cases hv0 : v0 < 0
  · go_wp2
    go_ret
    exact ⟨rfl, hB.trans (z21.mono hB.size)⟩
  obtain ⟨s1, s2, s3⟩ := r0 (by omega)
  have S10 : L0.length ≤ 1048576 := by omega
  have S20 : T0.length ≤ 1048576 := by omega
  have S30 := Lib.hid (show ∀ j : Nat, j < T0.length → (rowAt T0 j).length ≤ 1048576 from fun j hj => by have := s3 j hj; omega)
  clear s1 s2 s3 r0
  go_wp2_with (first | (refine wpList_load_row_w rfl 30 _ rfl w.heap.size rfl _ _ _ _ (Kx0.out _ (by first | assumption | exact (by assumption : Below _ w1 _).alloc (Below.size (by assumption)) _)) Try.underlying30 rfl (size_LAlg _ _) ?_))
  refine (toAlgebra_any _ _ _ _ L0 T0 _ (HR0.out.below z21) (HT0.out.below z21) S10 S20 S30.out).mono ?_
  rintro e m0w ⟨bum0, Bm0, Rm0, rfl, lom0, hbBm0, rowm0, ownm0, hbm0⟩
  have z22 := z21.trans (hbm0.mono z21.size)
  clear hbm0
  go_wp2_with (first | (refine wpList_load_row_w rfl 30 _ rfl w.heap.size rfl _ _ _ _ (Kx0.out _ (by first | assumption | exact (by assumption : Below _ w1 _).alloc (Below.size (by assumption)) _)) Try.underlying30 rfl (size_LAlg _ _) ?_))
  refine (toIntS_any _ _ L1 _ (HR1.out.below z22) hs1).mono ?_
  rintro e m1w ⟨rfl, rowm1, hbm1⟩
  have z23 := z22.trans (hbm1.mono z22.size)
  replace rowm0 := rowm0.below hbm1 rowm0.lt
  replace ownm0 := ownm0.below hbm1
  clear hbm1
  go_wp2_with (first | (refine wpList_load_row_w rfl 30 _ rfl w.heap.size rfl _ _ _ _ (Kx0.out _ (by first | assumption | exact (by assumption : Below _ w1 _).alloc (Below.size (by assumption)) _)) Try.underlying30 rfl (size_LAlg _ _) ?_))
  refine (HS.out _ _ _ _ _ _ _ rowm0.rd ownm0.rd rowm1.rd).mono ?_
  rintro e wS ⟨rfl, hbS⟩
  have z24 := z23.trans (hbS.mono z23.size)
  clear z23 hbS
  clear rowm0 ownm0 rowm1
  go_wp2_with (first | (refine wpList_load_row_w rfl 30 _ rfl w.heap.size rfl _ _ _ _ (Kx0.out _ (by first | assumption | exact (by assumption : Below _ w1 _).alloc (Below.size (by assumption)) _)) Try.underlying30 rfl (size_LAlg _ _) ?_))
  refine (toAlgebra_any _ _ _ _ L0 T0 _ (HR0.out.below z24) (HT0.out.below z24) S10 S20 S30.out).mono ?_
  rintro e x0w ⟨bux0, Bx0, Rx0, rfl, lox0, hbBx0, rowx0, ownx0, hbx0⟩
  have z25 := z24.trans (hbx0.mono z24.size)
  clear z24 hbx0
  go_wp2_with (first | (refine wpList_load_row_w rfl 30 _ rfl w.heap.size rfl _ _ _ _ (Kx0.out _ (by first | assumption | exact (by assumption : Below _ w1 _).alloc (Below.size (by assumption)) _)) Try.underlying30 rfl (size_LAlg _ _) ?_))
  obtain ⟨g0, hg0⟩ : ∃ g, g = x0w.heap.size := ⟨_, rfl⟩
  obtain ⟨X0w, hX0⟩ : ∃ x, x = x0w.alloc (.cells #[.slice (some ⟨bux0, 0, none⟩) L0.length L0.length, .slice (some ⟨Bx0, 0, none⟩) T0.length T0.length] 33) := ⟨_, rfl⟩
  rw [← hX0, ← hg0]
  have hbX0 : Below x0w.heap.size x0w X0w := by rw [hX0]; exact (Below.refl _ _).alloc (Nat.le_refl _) _
  have hxx0 : X0w.heap[g0]? = some (.cells #[.slice (some ⟨bux0, 0, none⟩) L0.length L0.length, .slice (some ⟨Bx0, 0, none⟩) T0.length T0.length] 33 (0, 0)) := by rw [hX0, hg0]; exact heap_alloc_new x0w _
  have KX0 := Lib.hid (show ∀ wz, Below X0w.heap.size X0w wz → wz.heap[g0]? = some (.cells #[.slice (some ⟨bux0, 0, none⟩) L0.length L0.length, .slice (some ⟨Bx0, 0, none⟩) T0.length T0.length] 33 (0, 0)) from fun wz h => (h.block _ (lt_of_block hxx0)).trans hxx0)
  have row0 := Lib.hid (rowx0.below hbX0 rowx0.lt)
  have own0 := Lib.hid (ownx0.below hbX0)
  clear rowx0 ownx0 hX0 hg0 hxx0
  have z26 := z25.trans (hbX0.mono z25.size)
  clear z25 hbX0
  have y0z0 : Below X0w.heap.size X0w X0w := Below.refl _ _
  go_wp2_with (first | (refine wpList_load_row_w rfl 30 _ rfl w.heap.size rfl _ _ _ _ (Kx0.out _ (by first | assumption | exact (by assumption : Below _ w1 _).alloc (Below.size (by assumption)) _)) Try.underlying30 rfl (size_LAlg _ _) ?_) | (refine wpList_load_row_w rfl 33 _ rfl g0 rfl _ _ _ _ (KX0.out _ (by assumption)) Try.underlying33 rfl (size_Alg _ _) ?_))
  refine (toIntS_any _ _ L1 _ (HR1.out.below z26) hs1).mono ?_
  rintro e x1w ⟨rfl, rowx1, hbx1⟩
  have z27 := z26.trans (hbx1.mono z26.size)
  have y0z27 := y0z0.trans (hbx1.mono y0z0.size)
  clear z26 y0z0 hbx1
  have row1 := Lib.hid rowx1
  clear rowx1
  have y1z0 : Below x1w.heap.size x1w x1w := Below.refl _ _
  go_wp2_with (first | (refine wpList_load_row_w rfl 30 _ rfl w.heap.size rfl _ _ _ _ (Kx0.out _ (by first | assumption | exact (by assumption : Below _ w1 _).alloc (Below.size (by assumption)) _)) Try.underlying30 rfl (size_LAlg _ _) ?_) | (refine wpList_load_row_w rfl 33 _ rfl g0 rfl _ _ _ _ (KX0.out _ (by assumption)) Try.underlying33 rfl (size_Alg _ _) ?_))
  refine (HI.out _ _ _ _ _ _ _ (row0.out.below y0z27 row0.out.lt).rd (own0.out.below y0z27).rd (row1.out.below y1z0 row1.out.lt).rd (Nat.le_refl _)).mono ?_
  rintro e wI ⟨rfl, hbI⟩
  have z28 := z27.trans (hbI.mono z27.size)
  have y0z28 := y0z27.trans (hbI.mono y0z27.size)
  have y1z28 := y1z0.trans (hbI.mono y1z0.size)
  clear z27 y0z27 y1z0 hbI
  have hne : (V != V) = false := by simp
  obtain ⟨c0, c1⟩ := bxL_cells (Kx0.out _ z28)
  obtain ⟨d0, d1⟩ := bx_cells (KX0.out _ y0z28)
  go_wp2
  go_region_with (first
    | (go_at_call 23; refine (toAlgebra_any _ _ _ _ L0 T0 _ (HR0.out.below z28.drew) (HT0.out.below z28.drew) S10 S20 S30.out).mono ?_; rintro e e0w ⟨bue, Be, Re, rfl, _, _, rowe, owne, hbe0⟩; have z29 := z28.drew.trans (hbe0.mono z28.drew.size); have y0z29 := y0z28.drew.trans (hbe0.mono y0z28.drew.size); have y1z29 := y1z28.drew.trans (hbe0.mono y1z28.drew.size); obtain ⟨e0, e1⟩ := bx_cells (KX0.out _ y0z29))
    | (go_at_call 26; refine (eqAlgebra_same _ _ _ _ _ _ _ _ L0 T0 _ (row0.out.below y0z29 row0.out.lt).rd rowe.rd (own0.out.below y0z29).rd owne.rd (by omega) (fun j hj => Nat.le_trans (S30.out j hj) (by decide)) (by omega)).mono ?_; rintro e f0w ⟨rfl, hbf0⟩; have z30 := z29.trans (hbf0.mono z29.size); have y0z30 := y0z29.trans (hbf0.mono y0z29.size); have y1z30 := y1z29.trans (hbf0.mono y1z29.size)))
  all_goals
    clear c0 c1 d0 d1 e0 e1 rowe owne hbe0 hbf0 z28 y0z28 y1z28 z29 y0z29 y1z29
    go_wp2_with (first | (refine wpList_load_row_w rfl 30 _ rfl w.heap.size rfl _ _ _ _ (Kx0.out _ (by first | assumption | exact (by assumption : Below _ w1 _).alloc (Below.size (by assumption)) _)) Try.underlying30 rfl (size_LAlg _ _) ?_) | (refine wpList_load_row_w rfl 33 _ rfl g0 rfl _ _ _ _ (KX0.out _ (by assumption)) Try.underlying33 rfl (size_Alg _ _) ?_))
    refine (toIntS_any _ _ L1 _ (HR1.out.below z30) hs1).mono ?_
    rintro e t1w ⟨rfl, rowt, hbt1⟩
    have z31 := z30.trans (hbt1.mono z30.size)
    have y0z31 := y0z30.trans (hbt1.mono y0z30.size)
    have y1z31 := y1z30.trans (hbt1.mono y1z30.size)
    clear z30 y0z30 y1z30 hbt1
    go_wp2_with fail
    refine (eqIntS_same _ _ _ _ L1 _ (row1.out.below y1z31 row1.out.lt).rd rowt.rd (by omega)).mono ?_
    rintro e u1w ⟨rfl, hdu1⟩
    have hbu1 := hdu1.below t1w.heap.size
    have z32 := z31.trans (hbu1.mono z31.size)
    have y0z32 := y0z31.trans (hbu1.mono y0z31.size)
    have y1z32 := y1z31.trans (hbu1.mono y1z31.size)
    clear z31 y0z31 y1z31 hbu1
    clear rowt hdu1
    go_wp2
    go_ret
    exact ⟨rfl, hB.trans (z32.mono hB.size)⟩
end Go.Proofs.Ytidbilgnclfplaa
