import Derived.Test.YtbellklaoecpbaaL4
import Derived.Test.YtbellklaoecpbaaL5
namespace Go.Proofs.Ytbellklaoecpbaa
open Go.RowKit

def leG (x y : Int) : Bool := decide (x ≤ y)
end Go.Proofs.Ytbellklaoecpbaa

namespace Go.Proofs.Ytbellklaoecpbaa
open Go.RowKit

def chainI (n : Int) : List Int := if 1 ≤ n ∧ n ≤ 6 then chainTo n n else []
theorem chainI_in {n : Int} (h : 1 ≤ n ∧ n ≤ 6) : chainI n = chainTo n n := if_pos h
theorem chainI_out {n : Int} (h : ¬ (1 ≤ n ∧ n ≤ 6)) : chainI n = [] := if_neg h
theorem rowTo_le (x : Int) (x0 : 0 ≤ x) : ∀ k : Nat, rowTo (leG x) k = if (k : Int) ≤ x then 0 else pw k - pw x
  | 0 => by rw [if_pos (by omega)]; rfl
  | k + 1 => by
    have e : ((k + 1 : Nat) : Int) = (k : Int) + 1 := rfl
    rw [e, rowTo_succ _ _ (by omega), rowTo_le x x0 k, pw_succ _ (by omega)]
    unfold leG
    by_cases h1 : (k : Int) + 1 ≤ x
    · rw [if_pos h1, decide_eq_false (by omega), if_neg (by decide), if_pos (by omega)]
    · rw [if_neg h1, decide_eq_true (by omega), if_pos rfl]
      by_cases h2 : (k : Int) ≤ x
      · rw [if_pos h2]
        have : x = k := by omega
        rw [this]; omega
      · rw [if_neg h2]; omega
theorem upL_chain (n : Int) (n0 : 0 ≤ n) : upL leG n = chainTo n n := by
  unfold upL chainTo
  refine List.map_congr_left fun i hi => ?_
  have hi := List.mem_range.1 hi
  have := rowTo_le i (by omega) n.toNat
  rw [Int.toNat_of_nonneg n0, if_neg (by omega)] at this
  exact this
theorem chainI_len (n : Int) : (chainI n).length ≤ 6 := by
  by_cases h : 1 ≤ n ∧ n ≤ 6
  · rw [chainI_in h]; have := chainTo_len n n (by omega); omega
  · rw [chainI_out h]; simp

end Go.Proofs.Ytbellklaoecpbaa
