import Derived.Test.YtbellklaoecpbabH4
import Derived.Test.YtbellklaoecpbabK1
import Derived.Test.YtbellklaoecpbabL5
/- (has and its kin are in H4) -/
namespace Go.Proofs.Ytbellklaoecpbab
end Go.Proofs.Ytbellklaoecpbab
