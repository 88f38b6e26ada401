import Derived.Test.YtmlbdlobdnhimaaH4
import Derived.Test.YtmlbdlobdnhimaaK1
import Derived.Test.YtmlbdlobdnhimaaL5
/- (has and its kin are in H4) -/
namespace Go.Proofs.Ytmlbdlobdnhimaa
end Go.Proofs.Ytmlbdlobdnhimaa
