import Derived.Test.YtmlbdlobdnhimaaH10
import Derived.Test.YtmlbdlobdnhimaaR3
namespace Go.Proofs.Ytmlbdlobdnhimaa
open Go.RowKit

def powO (L : List Int) (T : List (List Int)) (x k : Int) : Int := if algIn L T x x && (decide (0 ≤ k) && decide (k ≤ 20)) then powr L T x k else -1
theorem powO_f1 {L : List Int} {T : List (List Int)} {x k : Int} (h : algIn L T x x = false) : powO L T x k = -1 := by unfold powO; rw [h]; rfl
theorem powO_f2 {L : List Int} {T : List (List Int)} {x k : Int} (h : (decide (0 ≤ k) && decide (k ≤ 20)) = false) : powO L T x k = -1 := by unfold powO; rw [h, Bool.and_false]; rfl
theorem powO_t {L : List Int} {T : List (List Int)} {x k : Int} (h : algIn L T x x = true) (hk : (decide (0 ≤ k) && decide (k ≤ 20)) = true) : powO L T x k = powr L T x k := by unfold powO; rw [h, hk]; rfl
end Go.Proofs.Ytmlbdlobdnhimaa
