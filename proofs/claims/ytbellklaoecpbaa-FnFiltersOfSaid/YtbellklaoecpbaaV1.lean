import Derived.Test.YtbellklaoecpbaaJ1
import Derived.Test.YtbellklaoecpbaaA5
import Derived.Test.YtbellklaoecpbaaL1
namespace Go.Proofs.Ytbellklaoecpbaa
open Go.RowKit

theorem lat_below {w w1 w2 : World} {g : Nat} {arr : Array Value} (h : w.heap[g]? = some (.cells arr 61 (0, 0))) (hb : Below w.heap.size w w1) (_ : w1 = w2) : w2.heap[g]? = some (.cells arr 61 (0, 0)) := by
  subst w2
  rw [hb.block _ (lt_of_block h)]; exact h

set_option maxRecDepth 100000 in
set_option maxHeartbeats 1000000 in
/-- impl.ValidLattice -/
theorem implValidLattice_any (a : Option Addr) (cap : Nat) (L : List Int) (w : World) (hr : Rd w a L) :
    Calls Try.prog 20 #[.slice a L.length cap] w fun e w' => e = .returned (.bool (latB L)) ∧ Below w.heap.size w w' := by
  cases hB : latB L with
  | false =>
    have HB := Lib.hid hB; clear hB
    go_enter Try.func20, Try.ntmps20
    go_wp2_with (first
      | (go_at_call 69; refine (readLattice_no _ _ _ _ hr HB.out).mono ?_; rintro e w1 ⟨rfl, h1⟩)
      | (refine wpList_store_row rfl 61 _ _ rfl w1.heap.size _ rfl rfl _ _ (heap_alloc_new w1 (.cells zeroLat 61)) (size_lat _ _ _ _) rfl (one_lat _ _ _ _) ?_; rw [World.setRow_alloc_new]))
    go_ret
    exact ⟨rfl, h1.alloc h1.size _⟩
  | true =>
    have HB := Lib.hid hB; clear hB
    go_enter Try.func20, Try.ntmps20
    go_wp2_with (first
      | (go_at_call 69; refine (readLattice_yes _ _ _ _ hr HB.out).mono ?_; rintro e w1 ⟨rfl, h1⟩)
      | (refine wpList_store_row rfl 61 _ _ rfl w1.heap.size (latOf L) rfl rfl _ _ (heap_alloc_new w1 (.cells zeroLat 61)) (size_lat _ _ _ _) rfl (one_lat _ _ _ _) ?_; rw [World.setRow_alloc_new]))
    go_ret
    exact ⟨rfl, h1.alloc h1.size _⟩

end Go.Proofs.Ytbellklaoecpbaa
