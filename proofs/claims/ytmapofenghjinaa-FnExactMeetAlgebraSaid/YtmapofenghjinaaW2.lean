import Derived.Test.YtmapofenghjinaaW1
namespace Go.Proofs.Ytmapofenghjinaa
open Go.RowKit

theorem withB_two (L : List Int) (x y : Int) : withB L [x, y] = ((decide (0 ≤ x) && decide (x < L.length)) && (decide (0 ≤ y) && decide (y < L.length))) := by
  unfold withB
  rw [show ((List.length [x, y] : Nat) : Int) = (0 + 1) + 1 from rfl, allI_succ _ (by omega), allI_succ _ (by omega), allI_zero]
  rfl
theorem good_two {L : List Int} {x y : Int} : goodB L x y = (latB L && withB L [x, y]) := by
  rw [withB_two]
  unfold goodB
  rw [show decide (x ≤ num L - 1) = decide (x < (L.length : Int)) from by rw [decide_eq_decide]; unfold num; omega, show decide (y ≤ num L - 1) = decide (y < (L.length : Int)) from by rw [decide_eq_decide]; unfold num; omega, Bool.and_assoc]
theorem row_two (w : World) (x y : Int) : Row (w.alloc (.cells #[.int .i64 x, .int .i64 y] 3)) w.heap.size [x, y] := heap_alloc_new w _

end Go.Proofs.Ytmapofenghjinaa
