import Derived.Test.YtbellklaoecpbaaK1
import Derived.Test.YtbellklaoecpbaaL5
namespace Go.Proofs.Ytbellklaoecpbaa
open Go.RowKit

set_option maxRecDepth 100000 in
set_option maxHeartbeats 1000000 in
/-- impl.lattice.greatest -/
theorem greatest_any (L : List Int) (w : World) (n1 : (L.length : Int) ≤ 6) :
    Calls Try.prog 121 #[.agg (latOf L)] w fun e w' => e = .returned (.int .i64 (L.length - 1)) ∧ Below w.heap.size w w' := by
  obtain ⟨w1, hw1⟩ : ∃ w1, w1 = w.alloc (.cells (latOf L) 61) := ⟨_, rfl⟩
  have hB : Below w.heap.size w w1 := by rw [hw1]; exact (Below.refl _ _).alloc (Nat.le_refl _) _
  have hL : LatAt w1 w.heap.size L := by rw [hw1]; exact LatAt.new w L
  have c0 := hL.size
  have k1 : IntKind.i64.wrap ((L.length : Int) - 1) = L.length - 1 := IntWalk.i64_in _ (by omega)
  go_enter Try.func121, Try.ntmps121
  go_wp2_with (rw [← hw1]; clear hw1)
  go_ret
  exact ⟨rfl, hB⟩

end Go.Proofs.Ytbellklaoecpbaa
