import Derived.Test.YtmlbdlobdnhimaaG3
import Derived.Test.YtmlbdlobdnhimaaH9
import Derived.Test.YtmlbdlobdnhimaaD3
import Derived.Test.YtmlbdlobdnhimaaA5
namespace Go.Proofs.Ytmlbdlobdnhimaa
open Go.RowKit

/-- x and y are elements of the algebra -/
def algIn (L : List Int) (T : List (List Int)) (x y : Int) : Bool := algB L T && (decide (0 ≤ x) && decide (x ≤ L.length - 1)) && (decide (0 ≤ y) && decide (y ≤ L.length - 1))
theorem algIn_parts {L : List Int} {T : List (List Int)} {x y : Int} (h : algIn L T x y = true) : algB L T = true ∧ 0 ≤ x ∧ x < num L ∧ 0 ≤ y ∧ y < num L := by
  unfold algIn at h
  simp only [Bool.and_eq_true, decide_eq_true_eq] at h
  have : num L = L.length := rfl
  exact ⟨h.1.1, h.1.2.1, by omega, h.2.1, by omega⟩
end Go.Proofs.Ytmlbdlobdnhimaa
