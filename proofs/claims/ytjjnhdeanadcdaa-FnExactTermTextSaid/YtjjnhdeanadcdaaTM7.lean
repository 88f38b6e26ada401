import Derived.Test.YtjjnhdeanadcdaaTM4
import Derived.Test.YtjjnhdeanadcdaaL5
namespace Go.Proofs.Ytjjnhdeanadcdaa
open Go.RowKit

theorem eqIntS_sameT (a1 a2 : Option Addr) (c1 c2 : Nat) (A : List Int) (w : World) (h1 : Rd w a1 A) (h2 : Rd w a2 A) (hm : A.length ≤ 1073741824) :
    Calls Try.prog 17 #[.slice a1 A.length c1, .slice a2 A.length c2] w fun e w' => e = .returned (.bool true) ∧ Dr w w' := by
  have h := eqIntS_any a1 a2 c1 c2 A A w h1 h2 hm
  rwa [show eqL A A = true from decide_eq_true rfl] at h
set_option maxRecDepth 100000 in
set_option maxHeartbeats 4000000 in
/-- the law -/
theorem lawTermText (a0 : Option Addr) (ca0 : Nat) (L0 : List Int) (w : World) (hr0 : Rd w a0 L0) (hL0 : L0.length ≤ maxLen) :
    Calls Try.prog 4 #[.slice a0 L0.length ca0] w fun e w' => e = .returned (.bool true) ∧ Below w.heap.size w w' := by
  unfold maxLen at *
  obtain ⟨w1, hw1⟩ : ∃ w1, w1 = w := ⟨_, rfl⟩
  have hB : Below w.heap.size w w1 := by rw [hw1]; exact Below.refl _ _
  have HR0 := Lib.hid (hr0.below hB)
  have z0 : Below w1.heap.size w1 w1 := Below.refl _ _
  by_cases hb0 : 1048576 < L0.length
  · have hc0 : (1048576 : Int) < (L0.length : Int) := by omega
    go_enter Try.func4, Try.ntmps4
    go_wp2
    go_ret
    exact ⟨rfl, Below.refl _ _⟩
  have hs0 : L0.length ≤ 1048576 := by omega
  have hss0 : (L0.length : Int) ≤ 1048576 := by omega
  clear hb0
  obtain ⟨V, hV⟩ : ∃ V, V = ttI L0 := ⟨_, rfl⟩
  have HS := Lib.hid (show ∀ (a0 : Option Addr) (ca0 : Nat) (w : World), Rd w a0 L0 → Calls Try.prog 20 #[.slice a0 L0.length ca0] w fun e w' => e = .returned (.string V) ∧ Below w.heap.size w w' from fun a0 ca0 w h0 => by rw [hV]; exact specTermText_any a0 ca0 L0 w h0 hs0)
  have HI := Lib.hid (show ∀ (a0 : Option Addr) (ca0 : Nat) (w : World), Rd w a0 L0 → L0.length ≤ ca0 → Calls Try.prog 22 #[.slice a0 L0.length ca0] w fun e w' => e = .returned (.string V) ∧ Below w.heap.size w w' from fun a0 ca0 w h0 h9 => by rw [hV]; exact implTermText_any a0 ca0 L0 w h0 hs0 h9)
  clear hV hr0
  subst hw1
  go_enter Try.func4, Try.ntmps4
  go_wp2_with fail
  refine (toIntS_any _ _ L0 _ (HR0.out.below z0) hs0).mono ?_
  rintro e m0w ⟨rfl, rowm0, hbm0⟩
  have z21 := z0.trans (hbm0.mono z0.size)
  clear hbm0
  go_wp2_with fail
  refine (HS.out _ _ _ rowm0.rd).mono ?_
  rintro e wS ⟨rfl, hbS⟩
  have z22 := z21.trans (hbS.mono z21.size)
  clear z21 hbS
  clear rowm0
  go_wp2_with fail
  refine (toIntS_any _ _ L0 _ (HR0.out.below z22) hs0).mono ?_
  rintro e x0w ⟨rfl, rowx0, hbx0⟩
  have z23 := z22.trans (hbx0.mono z22.size)
  clear z22 hbx0
  have row0 := Lib.hid rowx0
  clear rowx0
  have y0z0 : Below x0w.heap.size x0w x0w := Below.refl _ _
  go_wp2_with fail
  refine (HI.out _ _ _ (row0.out.below y0z0 row0.out.lt).rd (Nat.le_refl _)).mono ?_
  rintro e wI ⟨rfl, hbI⟩
  have z24 := z23.trans (hbI.mono z23.size)
  have y0z24 := y0z0.trans (hbI.mono y0z0.size)
  clear z23 y0z0 hbI
  go_wp2_with fail
  refine (toIntS_any _ _ L0 _ (HR0.out.below z24) hs0).mono ?_
  rintro e t0w ⟨rfl, rowt, hbt0⟩
  have z25 := z24.trans (hbt0.mono z24.size)
  have y0z25 := y0z24.trans (hbt0.mono y0z24.size)
  clear z24 y0z24 hbt0
  go_wp2_with fail
  refine (eqIntS_sameT _ _ _ _ L0 _ (row0.out.below y0z25 row0.out.lt).rd rowt.rd (by omega)).mono ?_
  rintro e u0w ⟨rfl, hdu0⟩
  have hbu0 := hdu0.below t0w.heap.size
  have z26 := z25.trans (hbu0.mono z25.size)
  have y0z26 := y0z25.trans (hbu0.mono y0z25.size)
  clear z25 y0z25 hbu0
  clear rowt hdu0
  go_wp2
  go_ret
  exact ⟨rfl, hB.trans (z26.mono hB.size)⟩
end Go.Proofs.Ytjjnhdeanadcdaa
