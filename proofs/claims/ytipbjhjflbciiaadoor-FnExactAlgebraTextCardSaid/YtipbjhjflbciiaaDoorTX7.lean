import Derived.Test.YtipbjhjflbciiaaDoorTX4
import Derived.Test.YtipbjhjflbciiaaDoorTX6
import Derived.Test.YtipbjhjflbciiaaDoorD3
import Derived.Test.YtipbjhjflbciiaaDoorL6
namespace Go.Proofs.YtipbjhjflbciiaaDoor
open Go.RowKit

set_option maxRecDepth 100000 in
set_option maxHeartbeats 4000000 in
/-- the law -/
theorem lawAlgebraText (a0 b0 : Option Addr) (ca0 cb0 : Nat) (L0 : List Int) (T0 : List (List Int)) (w : World) (hr0 : Rd w a0 L0) (ht0 : RdT w b0 T0) (hL0 : L0.length ≤ maxLen) (hn0 : T0.length ≤ maxLen) (hm0 : ∀ j : Nat, j < T0.length → (rowAt T0 j).length ≤ maxLen) :
    Calls Tryd.prog 3 #[.agg #[.slice a0 L0.length ca0, .slice b0 T0.length cb0]] w fun e w' => e = .returned (.bool true) ∧ Below w.heap.size w w' := by
  unfold maxLen at *
  have HM0 := Lib.hid (show ∀ j : Nat, j < T0.length → ((rowAt T0 j).length : Int) ≤ 9223372036854775807 from fun j hj => by have := hm0 j hj; omega)
  have hLL0 : (L0.length : Int) ≤ 9223372036854775807 := by omega
  have hnn0 : (T0.length : Int) ≤ 9223372036854775807 := by omega
  obtain ⟨w1, hw1⟩ : ∃ w1, w1 = (w.alloc (.cells #[.slice a0 L0.length ca0, .slice b0 T0.length cb0] 25)) := ⟨_, rfl⟩
  have hB : Below w.heap.size w w1 := by rw [hw1]; exact ((Below.refl _ _).alloc (Nat.le_refl _) _)
  have hx0 : w1.heap[w.heap.size]? = some (.cells #[.slice a0 L0.length ca0, .slice b0 T0.length cb0] 25 (0, 0)) := by rw [hw1]; exact heap_alloc_new w _
  have Kx0 := Lib.hid (show ∀ wz, Below w1.heap.size w1 wz → wz.heap[w.heap.size]? = some (.cells #[.slice a0 L0.length ca0, .slice b0 T0.length cb0] 25 (0, 0)) from fun wz h => (h.block _ (lt_of_block hx0)).trans hx0)
  have HR0 := Lib.hid (hr0.below hB)
  have HT0 := Lib.hid (ht0.below hB)
  have z0 : Below w1.heap.size w1 w1 := Below.refl _ _
  obtain ⟨V, hV⟩ : ∃ V, V = atI L0 T0 := ⟨_, rfl⟩
  have HS := Lib.hid (show ∀ (a0 b0 : Option Addr) (ca0 cb0 : Nat) (w : World), Rd w a0 L0 → RdT w b0 T0 → Calls Tryd.prog 5 #[.agg #[.slice a0 L0.length ca0, .slice b0 T0.length cb0]] w fun e w' => e = .returned (.string V) ∧ Below w.heap.size w w' from fun a0 b0 ca0 cb0 w h0 h1 => by rw [hV]; exact specAlgebraText_any a0 b0 ca0 cb0 L0 T0 w h0 h1 )
  have HI := Lib.hid (show ∀ (a0 b0 : Option Addr) (ca0 cb0 : Nat) (w : World), Rd w a0 L0 → RdT w b0 T0 → Calls Tryd.prog 7 #[.agg #[.slice a0 L0.length ca0, .slice b0 T0.length cb0]] w fun e w' => e = .returned (.string V) ∧ Below w.heap.size w w' from fun a0 b0 ca0 cb0 w h0 h1 => by rw [hV]; exact implAlgebraText_any a0 b0 ca0 cb0 L0 T0 w h0 h1 )
  clear hV hm0 ht0 hx0 hr0
  go_enter Tryd.func3, Tryd.ntmps3
  go_wp2_with (first | (rw [← hw1]; clear hw1) | (refine wpList_load_row_w rfl 25 _ rfl w.heap.size rfl _ _ _ _ (Kx0.out _ (by first | assumption | exact (by assumption : Below _ w1 _).alloc (Below.size (by assumption)) _)) Tryd.underlying25 rfl (size_LAlg _ _) ?_))
  refine (szAlgebra_any _ _ _ _ L0 T0 1048576 _ (HT0.out.below z0) (by omega) (by omega) hLL0 HM0.out hnn0).mono ?_
  rintro e s0w ⟨⟨v0, rfl, p0, q0, r0⟩, hbs0⟩
  have z21 := z0.trans (hbs0.mono z0.size)
  clear z0 hbs0
  by_cases hv0 : v0 < 0
  · go_wp2
    go_ret
    exact ⟨rfl, hB.trans (z21.mono hB.size)⟩
  obtain ⟨s1, s2, s3⟩ := r0 (by omega)
  have S10 : L0.length ≤ 1048576 := by omega
  have S20 : T0.length ≤ 1048576 := by omega
  have S30 := Lib.hid (show ∀ j : Nat, j < T0.length → (rowAt T0 j).length ≤ 1048576 from fun j hj => by have := s3 j hj; omega)
  clear s1 s2 s3 r0
  go_wp2_with (first | (refine wpList_load_row_w rfl 25 _ rfl w.heap.size rfl _ _ _ _ (Kx0.out _ (by first | assumption | exact (by assumption : Below _ w1 _).alloc (Below.size (by assumption)) _)) Tryd.underlying25 rfl (size_LAlg _ _) ?_))
  refine (toAlgebra_any _ _ _ _ L0 T0 _ (HR0.out.below z21) (HT0.out.below z21) S10 S20 S30.out).mono ?_
  rintro e m0w ⟨bum0, Bm0, Rm0, rfl, lom0, hbBm0, rowm0, ownm0, hbm0⟩
  have z22 := z21.trans (hbm0.mono z21.size)
  clear hbm0
  go_wp2_with (first | (refine wpList_load_row_w rfl 25 _ rfl w.heap.size rfl _ _ _ _ (Kx0.out _ (by first | assumption | exact (by assumption : Below _ w1 _).alloc (Below.size (by assumption)) _)) Tryd.underlying25 rfl (size_LAlg _ _) ?_))
  refine (HS.out _ _ _ _ _ rowm0.rd ownm0.rd).mono ?_
  rintro e wS ⟨rfl, hbS⟩
  have z23 := z22.trans (hbS.mono z22.size)
  clear z22 hbS
  clear rowm0 ownm0
  go_wp2_with (first | (refine wpList_load_row_w rfl 25 _ rfl w.heap.size rfl _ _ _ _ (Kx0.out _ (by first | assumption | exact (by assumption : Below _ w1 _).alloc (Below.size (by assumption)) _)) Tryd.underlying25 rfl (size_LAlg _ _) ?_))
  refine (toAlgebra_any _ _ _ _ L0 T0 _ (HR0.out.below z23) (HT0.out.below z23) S10 S20 S30.out).mono ?_
  rintro e x0w ⟨bux0, Bx0, Rx0, rfl, lox0, hbBx0, rowx0, ownx0, hbx0⟩
  have z24 := z23.trans (hbx0.mono z23.size)
  clear z23 hbx0
  go_wp2_with (first | (refine wpList_load_row_w rfl 25 _ rfl w.heap.size rfl _ _ _ _ (Kx0.out _ (by first | assumption | exact (by assumption : Below _ w1 _).alloc (Below.size (by assumption)) _)) Tryd.underlying25 rfl (size_LAlg _ _) ?_))
  obtain ⟨g0, hg0⟩ : ∃ g, g = x0w.heap.size := ⟨_, rfl⟩
  obtain ⟨X0w, hX0⟩ : ∃ x, x = x0w.alloc (.cells #[.slice (some ⟨bux0, 0, none⟩) L0.length L0.length, .slice (some ⟨Bx0, 0, none⟩) T0.length T0.length] 28) := ⟨_, rfl⟩
  rw [← hX0, ← hg0]
  have hbX0 : Below x0w.heap.size x0w X0w := by rw [hX0]; exact (Below.refl _ _).alloc (Nat.le_refl _) _
  have hxx0 : X0w.heap[g0]? = some (.cells #[.slice (some ⟨bux0, 0, none⟩) L0.length L0.length, .slice (some ⟨Bx0, 0, none⟩) T0.length T0.length] 28 (0, 0)) := by rw [hX0, hg0]; exact heap_alloc_new x0w _
  have KX0 := Lib.hid (show ∀ wz, Below X0w.heap.size X0w wz → wz.heap[g0]? = some (.cells #[.slice (some ⟨bux0, 0, none⟩) L0.length L0.length, .slice (some ⟨Bx0, 0, none⟩) T0.length T0.length] 28 (0, 0)) from fun wz h => (h.block _ (lt_of_block hxx0)).trans hxx0)
  have row0 := Lib.hid (rowx0.below hbX0 rowx0.lt)
  have own0 := Lib.hid (ownx0.below hbX0)
  clear rowx0 ownx0 hX0 hg0 hxx0
  have z25 := z24.trans (hbX0.mono z24.size)
  clear z24 hbX0
  have y0z0 : Below X0w.heap.size X0w X0w := Below.refl _ _
  refine (HI.out _ _ _ _ _ (row0.out.below y0z0 row0.out.lt).rd (own0.out.below y0z0).rd).mono ?_
  rintro e wI ⟨rfl, hbI⟩
  have z26 := z25.trans (hbI.mono z25.size)
  have y0z26 := y0z0.trans (hbI.mono y0z0.size)
  clear z25 y0z0 hbI
  obtain ⟨c0, c1⟩ := bxL_cells (Kx0.out _ z26)
  obtain ⟨d0, d1⟩ := bx_cells (KX0.out _ y0z26)
  go_wp2
  go_region_with (first
    | (go_at_call 6; refine (toAlgebra_any _ _ _ _ L0 T0 _ (HR0.out.below z26.drew) (HT0.out.below z26.drew) S10 S20 S30.out).mono ?_; rintro e e0w ⟨bue, Be, Re, rfl, _, _, rowe, owne, hbe0⟩; have z27 := z26.drew.trans (hbe0.mono z26.drew.size); have y0z27 := y0z26.drew.trans (hbe0.mono y0z26.drew.size); obtain ⟨e0, e1⟩ := bx_cells (KX0.out _ y0z27))
    | (go_at_call 8; refine (eqAlgebra_same _ _ _ _ _ _ _ _ L0 T0 _ (row0.out.below y0z27 row0.out.lt).rd rowe.rd (own0.out.below y0z27).rd owne.rd (by omega) (fun j hj => Nat.le_trans (S30.out j hj) (by decide)) (by omega)).mono ?_; rintro e f0w ⟨rfl, hbf0⟩; have z28 := z27.trans (hbf0.mono z27.size); have y0z28 := y0z27.trans (hbf0.mono y0z27.size)))
  all_goals
    clear c0 c1 d0 d1 e0 e1 rowe owne hbe0 hbf0 z26 y0z26 z27 y0z27
    go_wp2
    go_ret
    exact ⟨rfl, hB.trans (z28.mono hB.size)⟩
end Go.Proofs.YtipbjhjflbciiaaDoor
