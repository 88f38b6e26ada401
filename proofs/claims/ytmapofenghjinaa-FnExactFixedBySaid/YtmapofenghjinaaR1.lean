import Derived.Test.YtmapofenghjinaaH4
import Derived.Test.YtmapofenghjinaaK1
import Derived.Test.YtmapofenghjinaaL5
/- (has and its kin are in H4) -/
namespace Go.Proofs.Ytmapofenghjinaa
end Go.Proofs.Ytmapofenghjinaa
