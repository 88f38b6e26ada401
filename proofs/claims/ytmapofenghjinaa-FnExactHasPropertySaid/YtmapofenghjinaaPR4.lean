import Derived.Test.YtmapofenghjinaaPR3
import Derived.Test.YtmapofenghjinaaD2
import Derived.Test.YtmapofenghjinaaD3
import Derived.Test.YtmapofenghjinaaL6
namespace Go.Proofs.Ytmapofenghjinaa
open Go.RowKit

set_option maxRecDepth 100000 in
set_option maxHeartbeats 4000000 in
/-- the law -/
theorem lawHasProperty (a0 : ByteArray) (a1 b1 : Option Addr) (ca1 cb1 : Nat) (L1 : List Int) (T1 : List (List Int)) (w : World) (hr1 : Rd w a1 L1) (ht1 : RdT w b1 T1) (hL1 : L1.length ≤ maxLen) (hn1 : T1.length ≤ maxLen) (hm1 : ∀ j : Nat, j < T1.length → (rowAt T1 j).length ≤ maxLen) (hw0 : a0.size ≤ maxLen) :
    Calls Try.prog 3 #[.string a0, .agg #[.slice a1 L1.length ca1, .slice b1 T1.length cb1]] w fun e w' => e = .returned (.bool true) ∧ Below w.heap.size w w' := by
  unfold maxLen at *
  have HM1 := Lib.hid (show ∀ j : Nat, j < T1.length → ((rowAt T1 j).length : Int) ≤ 9223372036854775807 from fun j hj => by have := hm1 j hj; omega)
  have hLL1 : (L1.length : Int) ≤ 9223372036854775807 := by omega
  have hnn1 : (T1.length : Int) ≤ 9223372036854775807 := by omega
  obtain ⟨w1, hw1⟩ : ∃ w1, w1 = (w.alloc (.cells #[.slice a1 L1.length ca1, .slice b1 T1.length cb1] 25)) := ⟨_, rfl⟩
  have hB : Below w.heap.size w w1 := by rw [hw1]; exact ((Below.refl _ _).alloc (Nat.le_refl _) _)
  have hx1 : w1.heap[w.heap.size]? = some (.cells #[.slice a1 L1.length ca1, .slice b1 T1.length cb1] 25 (0, 0)) := by rw [hw1]; exact heap_alloc_new w _
  have Kx1 := Lib.hid (show ∀ wz, Below w1.heap.size w1 wz → wz.heap[w.heap.size]? = some (.cells #[.slice a1 L1.length ca1, .slice b1 T1.length cb1] 25 (0, 0)) from fun wz h => (h.block _ (lt_of_block hx1)).trans hx1)
  have HR1 := Lib.hid (hr1.below hB)
  have HT1 := Lib.hid (ht1.below hB)
  have z0 : Below w1.heap.size w1 w1 := Below.refl _ _
  by_cases hb0 : 1048576 < a0.size
  · have hc0 : (1048576 : Int) < (a0.size : Int) := by omega
    go_enter Try.func3, Try.ntmps3
    go_wp2_with (rw [← hw1]; clear hw1)
    go_ret
    exact ⟨rfl, hB⟩
  have hs0 : a0.size ≤ 1048576 := by omega
  have hss0 : (a0.size : Int) ≤ 1048576 := by omega
  clear hb0
  obtain ⟨V, hV⟩ : ∃ V, V = hpB a0 L1 T1 := ⟨_, rfl⟩
  have HS := Lib.hid (show ∀ (a1 b1 : Option Addr) (ca1 cb1 : Nat) (w : World), Rd w a1 L1 → RdT w b1 T1 → Calls Try.prog 16 #[.string a0, .agg #[.slice a1 L1.length ca1, .slice b1 T1.length cb1]] w fun e w' => e = .returned (.bool V) ∧ Below w.heap.size w w' from fun a1 b1 ca1 cb1 w h0 h1 => by rw [hV]; exact specHasProperty_any a0 a1 b1 ca1 cb1 L1 T1 w h0 h1 )
  have HI := Lib.hid (show ∀ (a1 b1 : Option Addr) (ca1 cb1 : Nat) (w : World), Rd w a1 L1 → RdT w b1 T1 → Calls Try.prog 18 #[.string a0, .agg #[.slice a1 L1.length ca1, .slice b1 T1.length cb1]] w fun e w' => e = .returned (.bool V) ∧ Below w.heap.size w w' from fun a1 b1 ca1 cb1 w h0 h1 => by rw [hV]; exact implHasProperty_any a0 a1 b1 ca1 cb1 L1 T1 w h0 h1 )
  clear hV hm1 ht1 hx1 hr1
  go_enter Try.func3, Try.ntmps3
  go_wp2_with (first | (rw [← hw1]; clear hw1) | (refine wpList_load_row_w rfl 25 _ rfl w.heap.size rfl _ _ _ _ (Kx1.out _ (by first | assumption | exact (by assumption : Below _ w1 _).alloc (Below.size (by assumption)) _)) Try.underlying25 rfl (size_LAlg _ _) ?_))
  refine (szAlgebra_any _ _ _ _ L1 T1 1048576 _ (HT1.out.below z0) (by omega) (by omega) hLL1 HM1.out hnn1).mono ?_
  rintro e s1w ⟨⟨v1, rfl, p1, q1, r1⟩, hbs1⟩
  have z21 := z0.trans (hbs1.mono z0.size)
  clear z0 hbs1
  by_cases hv1 : v1 < 0
  · go_wp2
    go_ret
    exact ⟨rfl, hB.trans (z21.mono hB.size)⟩
  obtain ⟨s1, s2, s3⟩ := r1 (by omega)
  have S11 : L1.length ≤ 1048576 := by omega
  have S21 : T1.length ≤ 1048576 := by omega
  have S31 := Lib.hid (show ∀ j : Nat, j < T1.length → (rowAt T1 j).length ≤ 1048576 from fun j hj => by have := s3 j hj; omega)
  clear s1 s2 s3 r1
  go_wp2_with (first | (refine wpList_load_row_w rfl 25 _ rfl w.heap.size rfl _ _ _ _ (Kx1.out _ (by first | assumption | exact (by assumption : Below _ w1 _).alloc (Below.size (by assumption)) _)) Try.underlying25 rfl (size_LAlg _ _) ?_))
  refine (toAlgebra_any _ _ _ _ L1 T1 _ (HR1.out.below z21) (HT1.out.below z21) S11 S21 S31.out).mono ?_
  rintro e m1w ⟨bum1, Bm1, Rm1, rfl, lom1, hbBm1, rowm1, ownm1, hbm1⟩
  have z22 := z21.trans (hbm1.mono z21.size)
  clear hbm1
  go_wp2_with (first | (refine wpList_load_row_w rfl 25 _ rfl w.heap.size rfl _ _ _ _ (Kx1.out _ (by first | assumption | exact (by assumption : Below _ w1 _).alloc (Below.size (by assumption)) _)) Try.underlying25 rfl (size_LAlg _ _) ?_))
  refine (HS.out _ _ _ _ _ rowm1.rd ownm1.rd).mono ?_
  rintro e wS ⟨rfl, hbS⟩
  have z23 := z22.trans (hbS.mono z22.size)
  clear z22 hbS
  clear rowm1 ownm1
  go_wp2_with (first | (refine wpList_load_row_w rfl 25 _ rfl w.heap.size rfl _ _ _ _ (Kx1.out _ (by first | assumption | exact (by assumption : Below _ w1 _).alloc (Below.size (by assumption)) _)) Try.underlying25 rfl (size_LAlg _ _) ?_))
  refine (toAlgebra_any _ _ _ _ L1 T1 _ (HR1.out.below z23) (HT1.out.below z23) S11 S21 S31.out).mono ?_
  rintro e x1w ⟨bux1, Bx1, Rx1, rfl, lox1, hbBx1, rowx1, ownx1, hbx1⟩
  have z24 := z23.trans (hbx1.mono z23.size)
  clear z23 hbx1
  go_wp2_with (first | (refine wpList_load_row_w rfl 25 _ rfl w.heap.size rfl _ _ _ _ (Kx1.out _ (by first | assumption | exact (by assumption : Below _ w1 _).alloc (Below.size (by assumption)) _)) Try.underlying25 rfl (size_LAlg _ _) ?_))
  obtain ⟨g1, hg1⟩ : ∃ g, g = x1w.heap.size := ⟨_, rfl⟩
  obtain ⟨X1w, hX1⟩ : ∃ x, x = x1w.alloc (.cells #[.slice (some ⟨bux1, 0, none⟩) L1.length L1.length, .slice (some ⟨Bx1, 0, none⟩) T1.length T1.length] 28) := ⟨_, rfl⟩
  rw [← hX1, ← hg1]
  have hbX1 : Below x1w.heap.size x1w X1w := by rw [hX1]; exact (Below.refl _ _).alloc (Nat.le_refl _) _
  have hxx1 : X1w.heap[g1]? = some (.cells #[.slice (some ⟨bux1, 0, none⟩) L1.length L1.length, .slice (some ⟨Bx1, 0, none⟩) T1.length T1.length] 28 (0, 0)) := by rw [hX1, hg1]; exact heap_alloc_new x1w _
  have KX1 := Lib.hid (show ∀ wz, Below X1w.heap.size X1w wz → wz.heap[g1]? = some (.cells #[.slice (some ⟨bux1, 0, none⟩) L1.length L1.length, .slice (some ⟨Bx1, 0, none⟩) T1.length T1.length] 28 (0, 0)) from fun wz h => (h.block _ (lt_of_block hxx1)).trans hxx1)
  have row1 := Lib.hid (rowx1.below hbX1 rowx1.lt)
  have own1 := Lib.hid (ownx1.below hbX1)
  clear rowx1 ownx1 hX1 hg1 hxx1
  have z25 := z24.trans (hbX1.mono z24.size)
  clear z24 hbX1
  have y1z0 : Below X1w.heap.size X1w X1w := Below.refl _ _
  refine (HI.out _ _ _ _ _ (row1.out.below y1z0 row1.out.lt).rd (own1.out.below y1z0).rd).mono ?_
  rintro e wI ⟨rfl, hbI⟩
  have z26 := z25.trans (hbI.mono z25.size)
  have y1z26 := y1z0.trans (hbI.mono y1z0.size)
  clear z25 y1z0 hbI
  have hne : (V != V) = false := by simp
  obtain ⟨c0, c1⟩ := bxL_cells (Kx1.out _ z26)
  obtain ⟨d0, d1⟩ := bx_cells (KX1.out _ y1z26)
  go_wp2
  go_region_with (first
    | (go_at_call 17; refine (toAlgebra_any _ _ _ _ L1 T1 _ (HR1.out.below z26.drew) (HT1.out.below z26.drew) S11 S21 S31.out).mono ?_; rintro e e1w ⟨bue, Be, Re, rfl, _, _, rowe, owne, hbe1⟩; have z27 := z26.drew.trans (hbe1.mono z26.drew.size); have y1z27 := y1z26.drew.trans (hbe1.mono y1z26.drew.size); obtain ⟨e0, e1⟩ := bx_cells (KX1.out _ y1z27))
    | (go_at_call 19; refine (eqAlgebra_same _ _ _ _ _ _ _ _ L1 T1 _ (row1.out.below y1z27 row1.out.lt).rd rowe.rd (own1.out.below y1z27).rd owne.rd (by omega) (fun j hj => Nat.le_trans (S31.out j hj) (by decide)) (by omega)).mono ?_; rintro e f1w ⟨rfl, hbf1⟩; have z28 := z27.trans (hbf1.mono z27.size); have y1z28 := y1z27.trans (hbf1.mono y1z27.size)))
  all_goals
    clear c0 c1 d0 d1 e0 e1 rowe owne hbe1 hbf1 z26 y1z26 z27 y1z27
    go_wp2
    go_ret
    exact ⟨rfl, hB.trans (z28.mono hB.size)⟩
end Go.Proofs.Ytmapofenghjinaa
