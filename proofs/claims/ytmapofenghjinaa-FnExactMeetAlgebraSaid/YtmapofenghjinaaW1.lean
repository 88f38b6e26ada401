import Derived.Test.YtmapofenghjinaaV1
import Derived.Test.YtmapofenghjinaaR1
namespace Go.Proofs.Ytmapofenghjinaa
open Go.RowKit

def withA (L E : List Int) : Array Value := if withB L E then latOf L else zeroLat
theorem withA_t {L E : List Int} (h : withB L E = true) : withA L E = latOf L := by unfold withA; rw [if_pos h]
theorem withA_f {L E : List Int} (h : withB L E = false) : withA L E = zeroLat := by unfold withA; rw [if_neg (by rw [h]; decide)]
end Go.Proofs.Ytmapofenghjinaa
