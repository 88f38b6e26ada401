import Derived.Test.YtmlbdlobdnhimabH4
import Derived.Test.YtmlbdlobdnhimabK1
import Derived.Test.YtmlbdlobdnhimabL5
/- (has and its kin are in H4) -/
namespace Go.Proofs.Ytmlbdlobdnhimab
end Go.Proofs.Ytmlbdlobdnhimab
