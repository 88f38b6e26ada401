import Derived.Test.YtbellklaoecpbaaH4
import Derived.Test.YtbellklaoecpbaaK1
import Derived.Test.YtbellklaoecpbaaL5
/- (has and its kin are in H4) -/
namespace Go.Proofs.Ytbellklaoecpbaa
end Go.Proofs.Ytbellklaoecpbaa
