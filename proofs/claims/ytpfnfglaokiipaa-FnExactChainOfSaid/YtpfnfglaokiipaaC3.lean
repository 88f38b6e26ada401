import Derived.Test.YtpfnfglaokiipaaC2
namespace Go.Proofs.Ytpfnfglaokiipaa
open Go.RowKit

theorem own_apart {B C : Nat} {w w1 : World} {v1 v2 : Value} {L1 L2 : List Int} (h1 : ∀ k, v1.ownBlock = some k → B ≤ k ∧ k < C) (h2 : Own C w v2 L2) (o1 : Own B w v1 L1) (hg : w.grownBy w1 v2.ownBlock) : Own B w1 v1 L1 :=
  World.ownsRow.kept o1 hg (by
    cases h : v1.ownBlock with
    | none => exact .inl rfl
    | some q =>
      right
      intro e
      have a := h1 q h
      have b := World.ownsRow.lt h2 q e.symm
      omega)

set_option maxRecDepth 100000 in
set_option maxHeartbeats 1000000 in
/-- the law -/
theorem lawChainOf (n : Int) (w : World) :
    Calls Try.prog 12 #[.int .i64 n] w fun e w' => e = .returned (.bool true) ∧ Below w.heap.size w w' := by
  have hlen := Lib.hid (chainI_len n)
  have heq : eqL (chainI n) (chainI n) = true := decide_eq_true rfl
  go_enter Try.func12, Try.ntmps12
  go_wp2_with fail
  refine (specChainOf_any n _).mono ?_
  rintro e w1 ⟨a1, c1, rfl, o1, hB1⟩
  go_wp2_with fail
  refine (implChainOf_any n _).mono ?_
  rintro e w2 ⟨a2, c2, rfl, o2, hb2⟩
  have hB2 : Below w.heap.size w w2 := hB1.trans (hb2.mono hB1.size)
  have o1b : Own w.heap.size w2 (.slice a1 (chainI n).length c1) (chainI n) := o1.below hb2
  have l1 := World.ownsRow.lt o1
  have hz1 := hB1.size
  clear o1 hb2 hB1
  go_wp2_with fail
  refine (eqIntS_any _ _ _ _ _ _ _ o2.rd o1b.rd (by have := hlen.out; omega)).mono ?_
  rintro e w3 ⟨rfl, hd3⟩
  have hB3 : Below w.heap.size w w3 := hB2.trans (hd3.below _)
  replace o1b := o1b.below (hd3.below _)
  replace o2 := o2.below (hd3.below _)
  clear hB2 hd3
  go_wp2_with fail
  refine (markIntS_any _ _ _ _ _ o2 (by omega) (by omega) (by have := hlen.out; omega)).mono ?_
  rintro e w4 ⟨rfl, o2d, hg4⟩
  have o1d := own_apart l1 o2 o1b hg4
  have hB4 : Below w.heap.size w w4 := hB3.grown hg4 hB3.size (fun k hk => Nat.le_trans hz1 (World.ownsRow.lt o2 k hk).1)
  have r2 : Rd w4 a2 (markL 1 (chainI n).length) := Own.rd (B := w1.heap.size) (cap := c2) (by rw [markL_len]; exact o2d)
  clear o1b o2 hg4 hB3
  go_wp2_with fail
  refine (heldIntS_any _ _ _ _ _ r2 (by omega) (by omega) (by have := hlen.out; omega)).mono ?_
  rintro e w5 ⟨rfl, rfl⟩
  have hne : ((1 : Int) + ((chainI n).length : Int) != 1 + ((chainI n).length : Int)) = false := by simp
  go_wp2_with fail
  refine (implChainOf_any n _).mono ?_
  rintro e w6 ⟨a3, c3, rfl, o3, hb6⟩
  have o1e := o1d.below hb6
  have r2e : Rd w6 a2 (markL 1 (chainI n).length) := r2.below hb6
  have hB6 : Below w.heap.size w w6 := hB4.trans (hb6.mono hB4.size)
  clear o1d r2 hB4 hb6
  go_wp2_with fail
  refine (eqIntS_any _ _ _ _ _ _ _ o3.rd o1e.rd (by have := hlen.out; omega)).mono ?_
  rintro e w7 ⟨rfl, hd7⟩
  have r2f := hd7.rd r2e
  have hB7 : Below w.heap.size w w7 := hB6.trans (hd7.below _)
  clear o1e o3 r2e hd7 hB6
  go_wp2_with fail
  refine (heldIntS_any _ _ _ _ _ r2f (by omega) (by omega) (by have := hlen.out; omega)).mono ?_
  rintro e w8 ⟨rfl, rfl⟩
  go_wp2
  go_ret
  exact ⟨rfl, hB7⟩
end Go.Proofs.Ytpfnfglaokiipaa
