import Derived.Test.YtmapofenghjinaaJ1
import Derived.Test.YtmapofenghjinaaA5
import Derived.Test.YtmapofenghjinaaL1
namespace Go.Proofs.Ytmapofenghjinaa
open Go.RowKit

theorem lat_below {w w1 w2 : World} {g : Nat} {arr : Array Value} (h : w.heap[g]? = some (.cells arr 68 (0, 0))) (hb : Below w.heap.size w w1) (_ : w1 = w2) : w2.heap[g]? = some (.cells arr 68 (0, 0)) := by
  subst w2
  rw [hb.block _ (lt_of_block h)]; exact h

end Go.Proofs.Ytmapofenghjinaa
