import Derived.Test.YtmlbdlobdnhimaaG0
import Derived.StillTailTactics
namespace Go.Proofs.Ytmlbdlobdnhimaa
open Go.RowKit

end Go.Proofs.Ytmlbdlobdnhimaa
