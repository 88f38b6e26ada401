import Derived.Test.YtmlbdlobdnhimaaG5
namespace Go.Proofs.Ytmlbdlobdnhimaa
open Go.RowKit

theorem withB_twoI {L : List Int} {x y : Int} : withB L [x, y] = ((decide (0 ≤ x) && decide (x ≤ (L.length : Int) - 1)) && (decide (0 ≤ y) && decide (y ≤ (L.length : Int) - 1))) := by
  unfold withB
  rw [show ((List.length [x, y] : Nat) : Int) = (0 + 1) + 1 from rfl, allI_succ _ (by omega), allI_succ _ (by omega), allI_zero, Bool.true_and]
  unfold inE
  rw [show nth [x, y] 0 = x from rfl, show nth [x, y] (0 + 1) = y from rfl, decide_eq_decide.2 (show x < (L.length : Int) ↔ x ≤ (L.length : Int) - 1 by omega), decide_eq_decide.2 (show y < (L.length : Int) ↔ y ≤ (L.length : Int) - 1 by omega)]
theorem withB_one {L : List Int} {x : Int} : withB L [x] = (decide (0 ≤ x) && decide (x ≤ (L.length : Int) - 1)) := by
  unfold withB
  rw [show ((List.length [x] : Nat) : Int) = 0 + 1 from rfl, allI_succ _ (by omega), allI_zero, Bool.true_and]
  unfold inE
  rw [show nth [x] 0 = x from rfl, decide_eq_decide.2 (show x < (L.length : Int) ↔ x ≤ (L.length : Int) - 1 by omega)]
theorem aw_two {L : List Int} {T : List (List Int)} {x y : Int} : awB L T [x, y] = algIn L T x y := by
  unfold awB algIn; rw [withB_twoI]; exact (Bool.and_assoc _ _ _).symm
theorem aw_one {L : List Int} {T : List (List Int)} {x : Int} : awB L T [x] = algIn L T x x := by
  unfold awB algIn; rw [withB_one]
  cases algB L T <;> cases (decide (0 ≤ x) && decide (x ≤ (L.length : Int) - 1)) <;> rfl
end Go.Proofs.Ytmlbdlobdnhimaa
