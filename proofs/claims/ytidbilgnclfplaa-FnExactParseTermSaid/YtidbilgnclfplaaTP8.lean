import Derived.Test.YtidbilgnclfplaaTP7
import Derived.Test.YtidbilgnclfplaaY1
import Derived.Test.YtidbilgnclfplaaD3
import Derived.Test.YtidbilgnclfplaaL6
namespace Go.Proofs.Ytidbilgnclfplaa
open Go.RowKit
set_option maxRecDepth 100000 in
set_option maxHeartbeats 8000000 in
/-- the law -/
theorem lawParseTerm (a0 : ByteArray) (w : World) (hw0 : a0.size ≤ maxLen) :
    Calls Try.prog 3 #[.string a0] w fun e w' => e = .returned (.bool true) ∧ Below w.heap.size w w' := by
  unfold maxLen at *
  obtain ⟨w1, hw1⟩ : ∃ w1, w1 = w := ⟨_, rfl⟩
  have hB : Below w.heap.size w w1 := by rw [hw1]; exact (Below.refl _ _)
  subst hw1
  have z0 : Below w1.heap.size w1 w1 := Below.refl _ _
  by_cases hb0 : 1048576 < a0.size
  · have hc0 : (1048576 : Int) < (a0.size : Int) := by omega
    go_enter Try.func3, Try.ntmps3
    go_wp2
    go_ret
    exact ⟨rfl, Below.refl _ _⟩
  have hs0 : a0.size ≤ 1048576 := by omega
  have hss0 : (a0.size : Int) ≤ 1048576 := by omega
  clear hb0
  have TI0 : ((ptI a0).getD []).length ≤ 1024 := ptI_len a0
  obtain ⟨V0, hV0⟩ : ∃ V, V = (ptI a0).getD [] := ⟨_, rfl⟩
  rw [← hV0] at TI0
  obtain ⟨V1, hV1⟩ : ∃ V, V = (ptI a0).isSome := ⟨_, rfl⟩
  have hne1 : (V1 != V1) = false := by simp
  have HS := Lib.hid (show ∀ (w : World), Calls Try.prog 16 #[.string a0] w (RetSsb V0 V1 w) from fun w => by rw [hV0, hV1]; exact specParseTerm_any a0 w hs0)
  have HI := Lib.hid (show ∀ (w : World), Calls Try.prog 17 #[.string a0] w (RetGsb V0 V1 w) from fun w => by rw [hV0, hV1]; exact implParseTerm_any a0 w hs0)
  clear hV0 hV1
  go_enter Try.func3, Try.ntmps3
  go_wp2_with fail
  refine (HS.out  _ ).mono ?_
  rintro e wS ⟨S0a, S0n, S0c, rfl, S0g, hbS⟩
  have z21 := z0.trans (hbS.mono z0.size)
  have n22 := hbS.size
  clear hbS
  have Sz0 : Below wS.heap.size wS wS := Below.refl _ _
  go_wp2_with fail
  have HS0 := Lib.hid (S0g)
  clear S0g
  have nlg : w1.heap.size ≤ wS.heap.size := z21.size
  refine (HI.out  _ ).mono ?_
  rintro e wI ⟨G0a, G0n, G0c, rfl, G0g, hbG⟩
  have z23 := z21.trans (hbG.mono z21.size)
  have Sz23 := Sz0.trans (hbG.mono Sz0.size)
  have n24 := hbG.size
  clear hbG
  have Gz0 : Below wI.heap.size wI wI := Below.refl _ _
  go_wp2_with fail
  have HG0 := Lib.hid (G0g)
  clear G0g
  refine (eqIntS_R _ _ V0 _ (HG0.out.below Gz0).rd (HS0.out.below Sz23) (by omega)).mono ?_
  rintro e c0w ⟨rfl, hbc0⟩
  have z25 := z23.trans (hbc0.mono z23.size)
  have Sz25 := Sz23.trans (hbc0.mono Sz23.size)
  have Gz25 := Gz0.trans (hbc0.mono Gz0.size)
  have n26 := hbc0.size
  clear z23 Sz23 Gz0 hbc0
  go_wp2_with fail
  refine (markIntS_G _ _ _ V0 (1) _ (HG0.out.below Gz25) (by omega) (by omega) (by omega)).mono ?_
  rintro e l0w ⟨rfl, MG0, ml0⟩
  have z27 := z25.trans (ml0.below (by omega) (by have := z25.size; omega))
  have Sz27 := Sz25.trans (ml0.below (by omega) (by have := Sz25.size; omega))
  replace MG0 := Lib.hid MG0
  have Gz27 : Below l0w.heap.size l0w l0w := Below.refl _ _
  clear z25 Sz25 Gz25 ml0
  have hq0 : ¬ 1 + (V0.length : Int) < 0 := by omega
  have hqb0 : decide (1 + (V0.length : Int) < 0) = false := decide_eq_false hq0
  have hqq : (1 + (V0.length : Int) != 1 + (V0.length : Int)) = false := by simp
  go_wp2_with fail
  refine (heldIntS_G _ V0 (1) _ (MG0.out.below Gz27) (by omega) (by omega) (by omega)).mono ?_
  rintro e p0w ⟨rfl, hbp0⟩
  have z28 := z27.trans (hbp0.mono z27.size)
  have Sz28 := Sz27.trans (hbp0.mono Sz27.size)
  have Gz28 := Gz27.trans (hbp0.mono Gz27.size)
  have n29 := hbp0.size
  clear z27 Sz27 Gz27 hbp0
  go_wp2_with fail
  refine (HI.out  _ ).mono ?_
  rintro e wH ⟨H0a, H0n, H0c, rfl, H0g, hbH⟩
  have z30 := z28.trans (hbH.mono z28.size)
  have Sz30 := Sz28.trans (hbH.mono Sz28.size)
  have Gz30 := Gz28.trans (hbH.mono Gz28.size)
  have n31 := hbH.size
  clear hbH
  have Hz0 : Below wH.heap.size wH wH := Below.refl _ _
  go_wp2_with fail
  have HH0 := Lib.hid (H0g)
  clear H0g
  refine (eqIntS_R _ _ V0 _ (HH0.out.below Hz0).rd (HS0.out.below Sz30) (by omega)).mono ?_
  rintro e r0w ⟨rfl, hbr0⟩
  have z32 := z30.trans (hbr0.mono z30.size)
  have Sz32 := Sz30.trans (hbr0.mono Sz30.size)
  have Gz32 := Gz30.trans (hbr0.mono Gz30.size)
  have Hz32 := Hz0.trans (hbr0.mono Hz0.size)
  have n33 := hbr0.size
  clear z30 Sz30 Gz30 Hz0 hbr0
  go_wp2_with fail
  go_wp2_with fail
  refine (heldIntS_G _ V0 (1) _ (MG0.out.below Gz32) (by omega) (by omega) (by omega)).mono ?_
  rintro e u0w ⟨rfl, hbu0⟩
  have z34 := z32.trans (hbu0.mono z32.size)
  have Sz34 := Sz32.trans (hbu0.mono Sz32.size)
  have Gz34 := Gz32.trans (hbu0.mono Gz32.size)
  have Hz34 := Hz32.trans (hbu0.mono Hz32.size)
  have n35 := hbu0.size
  clear z32 Sz32 Gz32 Hz32 hbu0
  go_wp2
  go_ret
  exact ⟨rfl, hB.trans (z34.mono hB.size)⟩
end Go.Proofs.Ytidbilgnclfplaa
