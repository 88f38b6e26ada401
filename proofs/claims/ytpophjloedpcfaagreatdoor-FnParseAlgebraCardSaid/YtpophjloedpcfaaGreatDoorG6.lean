import Derived.Test.YtpophjloedpcfaaGreatDoorK1
import Derived.Test.YtpophjloedpcfaaGreatDoorL5
import Derived.Test.YtpophjloedpcfaaGreatDoorH10
namespace Go.Proofs.YtpophjloedpcfaaGreatDoor
open Go.RowKit

set_option maxRecDepth 100000 in
set_option maxHeartbeats 1000000 in
/-- impl.lattice.greatest -/
theorem greatest_any (L : List Int) (w : World) (n1 : (L.length : Int) ≤ 6) :
    Calls Tryz.prog 200 #[.agg (latOf L)] w fun e w' => e = .returned (.int .i64 (L.length - 1)) ∧ Below w.heap.size w w' := by
  obtain ⟨w1, hw1⟩ : ∃ w1, w1 = w.alloc (.cells (latOf L) 59) := ⟨_, rfl⟩
  have hB : Below w.heap.size w w1 := by rw [hw1]; exact (Below.refl _ _).alloc (Nat.le_refl _) _
  have hL : LatAt w1 w.heap.size L := by rw [hw1]; exact LatAt.new w L
  have c0 := hL.size
  have k1 : IntKind.i64.wrap ((L.length : Int) - 1) = L.length - 1 := IntWalk.i64_in _ (by omega)
  go_enter Tryz.func200, Tryz.ntmps200
  go_wp2_with (rw [← hw1]; clear hw1)
  go_ret
  exact ⟨rfl, hB⟩

end Go.Proofs.YtpophjloedpcfaaGreatDoor

namespace Go.Proofs.YtpophjloedpcfaaGreatDoor
open Go.RowKit

def powO (L : List Int) (T : List (List Int)) (x k : Int) : Int := if algIn L T x x && (decide (0 ≤ k) && decide (k ≤ 20)) then powr L T x k else -1
theorem powO_f1 {L : List Int} {T : List (List Int)} {x k : Int} (h : algIn L T x x = false) : powO L T x k = -1 := by unfold powO; rw [h]; rfl
theorem powO_f2 {L : List Int} {T : List (List Int)} {x k : Int} (h : (decide (0 ≤ k) && decide (k ≤ 20)) = false) : powO L T x k = -1 := by unfold powO; rw [h, Bool.and_false]; rfl
theorem powO_t {L : List Int} {T : List (List Int)} {x k : Int} (h : algIn L T x x = true) (hk : (decide (0 ≤ k) && decide (k ≤ 20)) = true) : powO L T x k = powr L T x k := by unfold powO; rw [h, hk]; rfl
end Go.Proofs.YtpophjloedpcfaaGreatDoor
