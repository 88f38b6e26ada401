import Derived.Test.YtjcambkjcagcoaaKM8
import Derived.Test.YtjcambkjcagcoaaD3
import Derived.Test.YtjcambkjcagcoaaL6
namespace Go.Proofs.Ytjcambkjcagcoaa
open Go.RowKit

set_option maxRecDepth 100000 in
set_option maxHeartbeats 2000000 in
/-- the law -/
theorem lawIsLocal (a b : Option Addr) (ca cb : Nat) (L : List Int) (T : List (List Int))  (w : World) (hr : Rd w a L) (hT : RdT w b T) (hL : L.length ≤ maxLen) (hn : T.length ≤ maxLen) (hm : ∀ j : Nat, j < T.length → (rowAt T j).length ≤ maxLen) :
    Calls Try.prog 8 #[.agg #[.slice a L.length ca, .slice b T.length cb]] w fun e w' => e = .returned (.bool true) ∧ Below w.heap.size w w' := by
  unfold maxLen at hL hn hm
  have HM := Lib.hid (show ∀ j : Nat, j < T.length → ((rowAt T j).length : Int) ≤ 9223372036854775807 from fun j hj => by have := hm j hj; omega)
  have hL2 : (L.length : Int) ≤ 9223372036854775807 := by omega
  have hn2 : (T.length : Int) ≤ 9223372036854775807 := by omega
  obtain ⟨V, hV⟩ : ∃ V, V = (algB L T && (((grs L T).length : Int) == 1)) := ⟨_, rfl⟩
  have HS := Lib.hid (show ∀ (a b : Option Addr) (ca cb : Nat) (w : World), Rd w a L → RdT w b T → Calls Try.prog 37 #[.agg #[.slice a L.length ca, .slice b T.length cb]] w fun e w' => e = .returned (.bool V) ∧ Below w.heap.size w w' from fun a b ca cb w h1 h2 => by rw [hV]; exact specIsLocal_any a b ca cb L T  w h1 h2)
  have HI := Lib.hid (show ∀ (a b : Option Addr) (ca cb : Nat) (w : World), Rd w a L → RdT w b T → Calls Try.prog 38 #[.agg #[.slice a L.length ca, .slice b T.length cb]] w fun e w' => e = .returned (.bool V) ∧ Below w.heap.size w w' from fun a b ca cb w h1 h2 => by rw [hV]; exact implIsLocal_any a b ca cb L T  w h1 h2)
  obtain ⟨w1, hw1⟩ : ∃ w1, w1 = w.alloc (.cells #[.slice a L.length ca, .slice b T.length cb] 35) := ⟨_, rfl⟩
  have hB : Below w.heap.size w w1 := by rw [hw1]; exact (Below.refl _ _).alloc (Nat.le_refl _) _
  have hx : w1.heap[w.heap.size]? = some (.cells #[.slice a L.length ca, .slice b T.length cb] 35 (0, 0)) := by rw [hw1]; exact heap_alloc_new w _
  have Kx := Lib.hid (show ∀ wz, Below w1.heap.size w1 wz → wz.heap[w.heap.size]? = some (.cells #[.slice a L.length ca, .slice b T.length cb] 35 (0, 0)) from fun wz h => (h.block _ (lt_of_block hx)).trans hx)
  have HR := Lib.hid (hr.below hB)
  have HT := Lib.hid (hT.below hB)
  have z0 : Below w1.heap.size w1 w1 := Below.refl _ _
  clear hm hV hr hT hx
  go_enter Try.func8, Try.ntmps8
  go_wp2_with (first | (rw [← hw1]; clear hw1) | (refine wpList_load_row_w rfl 35 _ rfl w.heap.size rfl _ _ _ _ (Kx.out _ (by assumption)) Try.underlying35 rfl (size_LAlg _ _) ?_))
  refine (szAlgebra_any _ _ _ _ L T 1048576 _ HT.out (by omega) (by omega) hL2 HM.out hn2).mono ?_
  rintro e w9 ⟨⟨v, rfl, v1, v2, v3⟩, hb1⟩
  by_cases hv : v < 0
  · go_wp2
    go_ret
    exact ⟨rfl, hB.trans (hb1.mono hB.size)⟩
  · obtain ⟨s1, s2, s3⟩ := v3 (by omega)
    have S1 : L.length ≤ 1048576 := by omega
    have S2 : T.length ≤ 1048576 := by omega
    have S3 := Lib.hid (show ∀ j : Nat, j < T.length → (rowAt T j).length ≤ 1048576 from fun j hj => by have := s3 j hj; omega)
    clear s3 v3
    go_wp2_with (refine wpList_load_row_w rfl 35 _ rfl w.heap.size rfl _ _ _ _ (Kx.out _ (by assumption)) Try.underlying35 rfl (size_LAlg _ _) ?_)
    refine (toAlgebra_any _ _ _ _ L T _ (HR.out.below hb1) (HT.out.below hb1) S1 S2 S3.out).mono ?_
    rintro e w2 ⟨bu2, B2, R2, rfl, _, _, row2, own2, hb2⟩
    have z2 : Below w1.heap.size w1 w2 := hb1.trans (hb2.mono hb1.size)
    clear hb1 hb2
    go_wp2_with (refine wpList_load_row_w rfl 35 _ rfl w.heap.size rfl _ _ _ _ (Kx.out _ (by assumption)) Try.underlying35 rfl (size_LAlg _ _) ?_)
    refine (HS.out _ _ _ _ _ row2.rd own2.rd).mono ?_
    rintro e w3 ⟨rfl, hb3⟩
    have z3 : Below w1.heap.size w1 w3 := z2.trans (hb3.mono z2.size)
    clear z2 hb3 row2 own2
    go_wp2_with (refine wpList_load_row_w rfl 35 _ rfl w.heap.size rfl _ _ _ _ (Kx.out _ (by assumption)) Try.underlying35 rfl (size_LAlg _ _) ?_)
    refine (toAlgebra_any _ _ _ _ L T _ (HR.out.below z3) (HT.out.below z3) S1 S2 S3.out).mono ?_
    rintro e w4 ⟨bu4, B4, R4, rfl, _, _, row4, own4, hb4⟩
    have z4 : Below w1.heap.size w1 w4 := z3.trans (hb4.mono z3.size)
    clear z3 hb4
    go_wp2_with (refine wpList_load_row_w rfl 35 _ rfl w.heap.size rfl _ _ _ _ (Kx.out _ (by assumption)) Try.underlying35 rfl (size_LAlg _ _) ?_)
    obtain ⟨bx, hbx⟩ : ∃ bx, bx = w4.heap.size := ⟨_, rfl⟩
    obtain ⟨w5, hw5⟩ : ∃ w5, w5 = w4.alloc (.cells #[.slice (some ⟨bu4, 0, none⟩) L.length L.length, .slice (some ⟨B4, 0, none⟩) T.length T.length] 26) := ⟨_, rfl⟩
    rw [← hw5, ← hbx]
    have q5 : Below w4.heap.size w4 w5 := by rw [hw5]; exact (Below.refl _ _).alloc (Nat.le_refl _) _
    have hx5 : w5.heap[bx]? = some (.cells #[.slice (some ⟨bu4, 0, none⟩) L.length L.length, .slice (some ⟨B4, 0, none⟩) T.length T.length] 26 (0, 0)) := by rw [hw5, hbx]; exact heap_alloc_new w4 _
    have KX := Lib.hid (show ∀ wz, Below w5.heap.size w5 wz → wz.heap[bx]? = some (.cells #[.slice (some ⟨bu4, 0, none⟩) L.length L.length, .slice (some ⟨B4, 0, none⟩) T.length T.length] 26 (0, 0)) from fun wz h => (h.block _ (lt_of_block hx5)).trans hx5)
    have z5 : Below w1.heap.size w1 w5 := z4.trans (q5.mono z4.size)
    have row5 := Lib.hid (row4.below q5 row4.lt)
    have own5 := Lib.hid (own4.below q5)
    have y5 : Below w5.heap.size w5 w5 := Below.refl _ _
    clear z4 q5 row4 own4 hw5 hbx hx5
    refine (HI.out _ _ _ _ _ row5.out.rd own5.out.rd).mono ?_
    rintro e w6 ⟨rfl, hb6⟩
    have z6 : Below w1.heap.size w1 w6 := z5.trans (hb6.mono z5.size)
    have y6 : Below w5.heap.size w5 w6 := hb6
    clear z5 hb6
    have hne : (V != V) = false := by simp
    obtain ⟨c0, c1⟩ := bxL_cells (Kx.out _ z6)
    obtain ⟨d0, d1⟩ := bx_cells (KX.out _ y6)
    go_wp2
    go_region_with (first
      | (go_at_call 19; refine (toAlgebra_any _ _ _ _ L T _ (HR.out.below z6.drew) (HT.out.below z6.drew) S1 S2 S3.out).mono ?_; rintro e w7 ⟨bu7, B7, R7, rfl, _, _, row7, own7, hb7⟩; have z7 := z6.drew.trans (hb7.mono z6.drew.size); have y7 := y6.drew.trans (hb7.mono y6.drew.size); obtain ⟨e0, e1⟩ := bx_cells (KX.out _ y7))
      | (go_at_call 21; refine (eqAlgebra_same _ _ _ _ _ _ _ _ L T _ (row5.out.below y7 row5.out.lt).rd row7.rd (own5.out.below y7).rd own7.rd (by omega) (fun j hj => Nat.le_trans (S3.out j hj) (by decide)) (by omega)).mono ?_; rintro e w8 ⟨rfl, hb8⟩))
    all_goals
      go_wp2
      go_ret
      exact ⟨rfl, hB.trans ((z7.trans (hb8.mono z7.size)).mono hB.size)⟩
end Go.Proofs.Ytjcambkjcagcoaa
