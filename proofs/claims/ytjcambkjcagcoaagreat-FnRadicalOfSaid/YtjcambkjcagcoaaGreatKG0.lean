import Derived.Test.YtjcambkjcagcoaaGreatSL0
import Derived.Test.YtjcambkjcagcoaaGreatG10
namespace Go.Proofs.YtjcambkjcagcoaaGreat
open Go.RowKit

/-- a power of x is the least element -/
def dpF (L : List Int) (T : List (List Int)) (x : Int) : Bool := decide (0 ≤ firstI (num L + 1) (depQ L T x))
theorem dep_el {L : List Int} {T : List (List Int)} {x : Int} (h : algB L T = true) (hx : El L x) : depB L T x = dpF L T x := by
  unfold depB; rw [algIn_el h hx hx, Bool.true_and]; rfl
end Go.Proofs.YtjcambkjcagcoaaGreat
