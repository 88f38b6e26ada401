import Derived.Test.YtbellklaoecpbaaC2
namespace Go.Proofs.Ytbellklaoecpbaa
open Go.RowKit

theorem own_apart {B C : Nat} {w w1 : World} {v1 v2 : Value} {L1 L2 : List Int} (h1 : ∀ k, v1.ownBlock = some k → B ≤ k ∧ k < C) (h2 : Own C w v2 L2) (o1 : Own B w v1 L1) (hg : w.grownBy w1 v2.ownBlock) : Own B w1 v1 L1 :=
  World.ownsRow.kept o1 hg (by
    cases h : v1.ownBlock with
    | none => exact .inl rfl
    | some q =>
      right
      intro e
      have a := h1 q h
      have b := World.ownsRow.lt h2 q e.symm
      omega)

end Go.Proofs.Ytbellklaoecpbaa
