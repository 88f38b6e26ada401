import Derived.Test.YtnmhbbekmepinaaSA7
namespace Go.Proofs.Ytnmhbbekmepinaa
open Go.RowKit

end Go.Proofs.Ytnmhbbekmepinaa
