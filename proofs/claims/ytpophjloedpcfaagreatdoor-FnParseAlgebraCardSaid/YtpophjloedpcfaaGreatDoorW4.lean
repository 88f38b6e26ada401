import Derived.Test.YtpophjloedpcfaaGreatDoorK1
import Derived.Test.YtpophjloedpcfaaGreatDoorA5
import Derived.Test.YtpophjloedpcfaaGreatDoorL5
import Derived.Test.YtpophjloedpcfaaGreatDoorG11
namespace Go.Proofs.YtpophjloedpcfaaGreatDoor
open Go.RowKit

theorem lat_below {w w1 w2 : World} {g : Nat} {arr : Array Value} (h : w.heap[g]? = some (.cells arr 59 (0, 0))) (hb : Below w.heap.size w w1) (_ : w1 = w2) : w2.heap[g]? = some (.cells arr 59 (0, 0)) := by
  subst w2
  rw [hb.block _ (lt_of_block h)]; exact h

end Go.Proofs.YtpophjloedpcfaaGreatDoor

namespace Go.Proofs.YtpophjloedpcfaaGreatDoor
open Go.RowKit

def withA (L E : List Int) : Array Value := if withB L E then latOf L else zeroLat
theorem withA_t {L E : List Int} (h : withB L E = true) : withA L E = latOf L := by unfold withA; rw [if_pos h]
theorem withA_f {L E : List Int} (h : withB L E = false) : withA L E = zeroLat := by unfold withA; rw [if_neg (by rw [h]; decide)]
end Go.Proofs.YtpophjloedpcfaaGreatDoor

namespace Go.Proofs.YtpophjloedpcfaaGreatDoor
open Go.RowKit

theorem withB_two (L : List Int) (x y : Int) : withB L [x, y] = ((decide (0 ≤ x) && decide (x < L.length)) && (decide (0 ≤ y) && decide (y < L.length))) := by
  unfold withB
  rw [show ((List.length [x, y] : Nat) : Int) = (0 + 1) + 1 from rfl, allI_succ _ (by omega), allI_succ _ (by omega), allI_zero]
  rfl
theorem good_two {L : List Int} {x y : Int} : goodB L x y = (latB L && withB L [x, y]) := by
  rw [withB_two]
  unfold goodB
  rw [show decide (x ≤ num L - 1) = decide (x < (L.length : Int)) from by rw [decide_eq_decide]; unfold num; omega, show decide (y ≤ num L - 1) = decide (y < (L.length : Int)) from by rw [decide_eq_decide]; unfold num; omega, Bool.and_assoc]
theorem row_two (w : World) (x y : Int) : Row (w.alloc (.cells #[.int .i64 x, .int .i64 y] 3)) w.heap.size [x, y] := heap_alloc_new w _

end Go.Proofs.YtpophjloedpcfaaGreatDoor

namespace Go.Proofs.YtpophjloedpcfaaGreatDoor
open Go.RowKit

def distXYZ (L : List Int) (x y z : Int) : Bool := mt L x (jn L y z) == jn L (mt L x y) (mt L x z)
def distXY (L : List Int) (x y : Int) : Bool := allI (num L) (distXYZ L x y)
def distX (L : List Int) (x : Int) : Bool := allI (num L) (distXY L x)
def distB (L : List Int) : Bool := allI (num L) (distX L)
theorem mt_lt {L : List Int} (h : latB L = true) {x y : Int} (x0 : 0 ≤ x) (x1 : x < num L) (y0 : 0 ≤ y) (y1 : y < num L) : 0 ≤ mt L x y ∧ mt L x y < num L := by
  have p := (mt_pos h x0 x1 y0 y1).1
  rcases firstI_cases (num L) (isMeetB L x y) with ⟨e, _⟩ | ⟨a, b, _⟩
  · have : mt L x y = -1 := e
    omega
  · exact ⟨a, b⟩
theorem jn_lt {L : List Int} (h : latB L = true) {x y : Int} (x0 : 0 ≤ x) (x1 : x < num L) (y0 : 0 ≤ y) (y1 : y < num L) : 0 ≤ jn L x y ∧ jn L x y < num L := by
  have p := (mt_pos h x0 x1 y0 y1).2
  rcases firstI_cases (num L) (isJoinB L x y) with ⟨e, _⟩ | ⟨a, b, _⟩
  · have : jn L x y = -1 := e
    omega
  · exact ⟨a, b⟩

end Go.Proofs.YtpophjloedpcfaaGreatDoor

namespace Go.Proofs.YtpophjloedpcfaaGreatDoor
open Go.RowKit

theorem dist_over {L : List Int} (h : latB L = true) : all2 (L.length : Int) (overG L.length (tabM L) (tabJ L)) = distB L := by
  have hn : num L = L.length := rfl
  have key : ∀ x y z, 0 ≤ x → x < num L → 0 ≤ y → y < num L → 0 ≤ z → z < num L → goG (tabM L) (tabJ L) y z x = distXYZ L x y z := fun x y z x0 x1 y0 y1 z0 z1 => by
    obtain ⟨a0, a1⟩ := jn_lt h y0 y1 z0 z1
    obtain ⟨b0, b1⟩ := mt_lt h x0 x1 y0 y1
    obtain ⟨c0, c1⟩ := mt_lt h x0 x1 z0 z1
    have t1 : tabJ L y z = jn L y z := tabT_join h y0 y1 z0 z1
    have t2 : tabM L x y = mt L x y := tabT_meet h x0 x1 y0 y1
    have t3 : tabM L x z = mt L x z := tabT_meet h x0 x1 z0 z1
    have t4 : tabM L x (jn L y z) = mt L x (jn L y z) := tabT_meet h x0 x1 a0 a1
    have t5 : tabJ L (mt L x y) (mt L x z) = jn L (mt L x y) (mt L x z) := tabT_join h b0 b1 c0 c1
    unfold goG distXYZ
    rw [t1, t2, t3, t4, t5]
  rw [← hn, Bool.eq_iff_iff, all2_iff]
  unfold distB
  rw [allI_iff]
  constructor
  · intro q x x0 x1
    refine (allI_iff _ _).2 fun y y0 y1 => (allI_iff _ _).2 fun z z0 z1 => ?_
    rw [← key x y z x0 x1 y0 y1 z0 z1]
    exact (allI_iff _ _).1 (q y z y0 y1 z0 z1) x x0 x1
  · intro q y z y0 y1 z0 z1
    refine (allI_iff _ _).2 fun x x0 x1 => ?_
    rw [key x y z x0 x1 y0 y1 z0 z1]
    exact (allI_iff _ _).1 ((allI_iff _ _).1 (q x x0 x1) y y0 y1) z z0 z1
end Go.Proofs.YtpophjloedpcfaaGreatDoor
